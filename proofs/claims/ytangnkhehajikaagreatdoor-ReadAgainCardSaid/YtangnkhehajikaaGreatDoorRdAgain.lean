/-
  ReadAgain.
-/
import Derived.Test.YtangnkhehajikaaGreatDoorRdLaw
import Derived.Test.YtangnkhehajikaaGreatDoorPkI
set_option linter.unusedSimpArgs false
set_option linter.unusedVariables false
namespace Go.Proofs.YtangnkhehajikaaGreatDoor
open Go.RowKit
set_option maxRecDepth 100000
namespace lawReadAgain
theorem wrap_nat2 (n : Nat) (h : n ≤ 1000000) : wrap64 (n : Int) = n ∧ IntKind.i64.wrap (n : Int) = n ∧ (0 : Int) ≤ (n : Int) := ⟨IntWalk.wrap64_in _ (by omega), IntWalk.i64_in _ (by omega), by omega⟩
theorem was_facts {s : List UInt8} {p : Pk} {xs : List (List UInt8 × Int)} {n v u : Int} {b : UInt8} {r : List UInt8} (h : Was s p xs n b r v u) :
    ∃ (u' v' j : Nat) (T : List UInt8), u = u' ∧ v = v' ∧ encL p xs = T ∧ T.length = j + v' ∧ 1 ≤ T.length ∧ T.length ≤ 1 + u' + v' ∧ 1 + u' + v' ≤ s.length ∧ T.drop j = (s.take (1 + u' + v')).drop (1 + u') ∧ (∀ h0 : 0 < (ByteArray.mk T.toArray).size, (ByteArray.mk T.toArray)[0]'h0 = b) ∧ s.tail = r ∧ (∀ h0 : 0 < (ByteArray.mk s.toArray).size, (ByteArray.mk s.toArray)[0]'h0 = b) := by
  have hlo := h.lo
  have hu1 := h.u1
  have hle := h.le
  have henc := h.enc
  have hlen := h.len
  obtain ⟨u', rfl⟩ : ∃ u' : Nat, u = u' := ⟨u.toNat, by omega⟩
  obtain ⟨v', rfl⟩ : ∃ v' : Nat, v = v' := ⟨v.toNat, by omega⟩
  have hs := h.s
  rw [Int.toNat_natCast, Int.toNat_natCast] at henc
  have hbl : ((r.drop u').take v').length = v' := by rw [List.length_take, List.length_drop]; omega
  have hT : (encL p xs).length = (1 + (lenL 3 (v' : Int)).length) + v' := by rw [henc, List.length_cons, List.length_append, hbl]; omega
  refine ⟨u', v', 1 + (lenL 3 (v' : Int)).length, encL p xs, rfl, rfl, rfl, hT, by omega, by omega, ?_, ?_, ?_, ?_, ?_⟩
  · rw [hs, List.length_cons]; omega
  · rw [henc, hs, show 1 + u' + v' = (u' + v') + 1 by omega, List.take_succ_cons, show 1 + u' = u' + 1 by omega, List.drop_succ_cons, show 1 + (lenL 3 (v' : Int)).length = (lenL 3 (v' : Int)).length + 1 by omega, List.drop_succ_cons, List.drop_left, List.drop_take]
    congr 1
    omega
  · intro h0
    have : ∀ T : List UInt8, T = b :: (lenL 3 (v' : Int) ++ (r.drop u').take v') → ∀ h0 : 0 < (ByteArray.mk T.toArray).size, (ByteArray.mk T.toArray)[0]'h0 = b := by intro T e h1; subst e; rfl
    exact this _ henc h0
  · rw [hs]; rfl
  · intro h0; subst hs; rfl
set_option maxHeartbeats 4000000 in
theorem walk_great (w : World) (HG : Hid (Glo w)) (s : List UInt8) (hsl : s.length ≤ 9223372036854775807) (HGB : Hid (decide (20000 < s.length) = true)) :
    Calls Tryz.prog 4 #[.string ⟨s.toArray⟩] w fun e w' => e = .returned (.bool true) ∧ Below w.heap.size w w' := by
  go_enter Tryz.func4, Tryz.ntmps4
  go_wp2_with fail
  refine (sgreat_any s true _ hsl HGB.out).mono ?_
  rintro e w2 ⟨rfl, rfl⟩
  go_wp2_with fail
  refine (awake5_any _ HG.out).mono ?_
  rintro e w2 ⟨rfl, hb2⟩
  go_wp2_with fail
  go_ret
  exact ⟨rfl, hb2⟩
set_option maxHeartbeats 4000000 in
theorem walk_level (w : World) (HG : Hid (Glo w)) (s : List UInt8) (hsl : s.length ≤ 9223372036854775807) (HGB : Hid (decide (20000 < s.length) = false)) (hl2 : s.length ≤ 20000) (hcl : (cutR s).1.length ≤ 90000) (v n : Int) (b : UInt8) (r : List UInt8) (hs : s = b :: r) (v0 : 0 ≤ v) (v1 : v ≤ 255) (v4 : v ≠ 4) (hty : b.toNat / 16 = 1) (hn2 : 2 ≤ n) (hns : n ≤ s.length) (HD : Hid (decR s = ((zPk.s_ty 1).s_level v, [], n, 0))) :
    Calls Tryz.prog 4 #[.string ⟨s.toArray⟩] w fun e w' => e = .returned (.bool true) ∧ Below w.heap.size w w' := by
  have hbb := b.toNat_lt
  have HA : ∀ h0 : 0 < (ByteArray.mk s.toArray).size, (ByteArray.mk s.toArray)[0]'h0 = b := by intro h0; subst hs; rfl
  have h1l : 1 ≤ s.length := by rw [hs]; simp
  obtain ⟨P, hP⟩ : ∃ P, P = (zPk.s_ty 1).s_level v := ⟨_, rfl⟩
  have hlv : P.level = v := by rw [hP]; rfl
  have hlt : P.ty = 1 := by rw [hP]; rfl
  have hmk : (zPk.s_ty 1).s_level v = P := hP.symm
  rw [← hP] at HD
  clear hP
  have e1 : (b.toNat : Int).tdiv 16 = (b.toNat : Int) / 16 := by rw [Int.tdiv_eq_ediv_of_nonneg (by omega)]
  have e2 : (b.toNat : Int) / 16 = 1 := by omega
  have d1 : decide (n < 2) = false := by simp; omega
  have d2 : decide ((s.length : Int) < n) = false := by simp; omega
  have d3 : (v == 4) = false := by simpa using v4
  clear hs hty
  go_enter Tryz.func4, Tryz.ntmps4
  go_wp2_with fail
  refine (sgreat_any s false _ hsl HGB.out).mono ?_
  rintro e w2 ⟨rfl, rfl⟩
  go_wp2_with fail
  refine (decode_eq s P [] n 0 _ HG.out (by omega) hcl HD.out).mono ?_
  rintro e w4 ⟨B, d, rfl, hb4, _, _, _⟩
  have hK := (Kp.nil w4).new (PkC P B 0 d) 27
  have hb5 := below_more hb4 hK.below
  clear hb4
  have a1r := hK.row; have a1f := hK.free; have a1c := hK.cell; have a1l := hK.lt; have a1z := hK.froz
  go_wp2_with fail
  go_quiet (fail)
  have hK1 := hK.more (below_drewN (Below.refl _ _) nq)
  have hb6 := below_drewN hb5 nq
  clear a1r a1f a1c a1l a1z hK hb5
  obtain ⟨w5, hw5⟩ : ∃ w5, w5 = (w4.alloc (.cells (PkC P B 0 d) 27)).drewN nq := ⟨_, rfl⟩
  rw [← hw5] at hK1 hb6 ⊢
  clear hw5
  have a1r := hK1.row; have a1f := hK1.free; have a1c := hK1.cell; have a1l := hK1.lt; have a1z := hK1.froz
  go_wp2_with fail
  have heq : Hid ((eqPk P P && ([] : List (List UInt8 × Int)) == []) = true) := by show _ = _; rw [(eqPk_iff P P).2 rfl]; rfl
  refine (same_eq P P B none 0 d 0 0 [] [] true _ (Subs.nil _) (Subs.nil _) (by omega) heq.out).mono ?_
  rintro e w6 ⟨rfl, hb7⟩
  replace hb7 := below_more hb6 hb7
  clear hb6 a1r a1f a1c a1l a1z hK1 heq
  go_wp2_with fail
  refine (awake5_any _ (HG.out.below hb7)).mono ?_
  rintro e w8 ⟨rfl, hb8⟩
  go_wp2_with fail
  go_ret
  exact ⟨rfl, below_more hb7 hb8⟩
set_option maxHeartbeats 4000000 in
theorem walk_was_false (w : World) (HG : Hid (Glo w)) (s : List UInt8) (hsl : s.length ≤ 9223372036854775807) (HGB : Hid (decide (20000 < s.length) = false)) (hl2 : s.length ≤ 20000) (hcl : (cutR s).1.length ≤ 90000) (p : Pk) (xs : List (List UInt8 × Int)) (n v u : Int) (b : UInt8) (r : List UInt8) (hW : Was s p xs n b r v u) (hc1 : (p.ty == 1) = false) (HD : Hid (decR s = (p, xs, n, 0))) :
    Calls Tryz.prog 4 #[.string ⟨s.toArray⟩] w fun e w' => e = .returned (.bool true) ∧ Below w.heap.size w w' := by
  obtain ⟨u', v', j, T, rfl, rfl, hT, hTl, hT1, hTn, hle, hdr, hTA, htl, HA⟩ := was_facts hW
  have hO := Lib.hid hW.ok
  have hF := Lib.hid hW.fit
  have hR := Lib.hid hW.rest
  have hrd : Hid (rdR s.tail = ((v' : Int), (u' : Int), 0)) := by show _ = _; rw [htl]; exact hW.rd
  have hn := hW.n
  have hty := hW.ty
  have hbb := b.toNat_lt
  have E1 : Hid (encR p xs = (T, 0)) := by show _ = _; unfold encR; rw [if_pos hO.out.lo, hT]
  have hlev : Hid (p.ty = 1 → (p.level == 4) = true) := fun e => by
    have := hO.out.con e
    simp only [conR, Bool.and_eq_true] at this
    exact this.1
  have hR0 : Hid (decide (0 ≤ restN p xs) = true) := by show _ = _; simpa using hO.out.lo
  have hTs : (T.length : Int) - (v' : Int) = (j : Int) := by omega
  have e1 : (b.toNat : Int).tdiv 16 = (b.toNat : Int) / 16 := by rw [Int.tdiv_eq_ediv_of_nonneg (by omega)]
  have d1 : decide (n < 2) = false := by have := hW.u1; have := hW.lo; simp; omega
  have d2 : decide ((s.length : Int) < n) = false := by simp; omega
  have d3 : (p.ty == (b.toNat : Int) / 16) = true := by simpa using hty
  have h1l : 1 ≤ s.length := by omega
  have hjl : j ≤ T.length := by omega
  have hTb : T.length ≤ 20000 := by omega
  have hT0 : 0 < T.length := by omega
  obtain ⟨U1, hU1⟩ : ∃ U1, U1 = 1 + u' := ⟨_, rfl⟩
  obtain ⟨Nn, hNn⟩ : ∃ Nn, Nn = 1 + u' + v' := ⟨_, rfl⟩
  have z1 : (1 : Int) + (u' : Int) = (U1 : Int) := by omega
  have z2 : (U1 : Int) + (v' : Int) = (Nn : Int) := by omega
  have qj : j ≤ 1000000 := by omega
  have qU : U1 ≤ 1000000 := by omega
  have qN : Nn ≤ 1000000 := by omega
  have hTle : decide ((T.length : Int) ≤ (Nn : Int)) = true := by simp; omega
  have hEq : T.drop j = (s.take Nn).drop U1 := by rw [hNn, hU1]; exact hdr
  have hTle2 : decide (T.length ≤ Nn) = true := by simp; omega
  have d2n : decide (s.length < Nn) = false := by simp; omega
  have d1n : decide (Nn < 2) = false := by have := hW.u1; have := hW.lo; simp; omega
  have g7 : U1 ≤ Nn := by omega
  have g8 : Nn ≤ s.length := by omega
  have g5 : (U1 : Int) ≤ (Nn : Int) := by omega
  have g6 : (Nn : Int) ≤ (s.length : Int) := by omega
  have htl9 : s.tail.length ≤ 9223372036854775807 := by rw [List.length_tail]; omega
  have hs0 : 0 < s.length := by omega
  have hj0 : (0 : Int) ≤ (j : Int) := by omega
  have hj1 : (j : Int) ≤ (T.length : Int) := by omega
  have hn9 : n = (Nn : Int) := by omega
  subst hn9
  clear hW hT hty htl hTl hdr hn hU1 hNn
  have hle4 : (p.ty == 1) = true → (p.level == 4) = true := fun e => hlev.out (by simpa using e)
  rw [hc1] at hle4
  try simp at hle4
  go_enter Tryz.func4, Tryz.ntmps4
  go_wp2_with fail
  refine (sgreat_any s false _ hsl HGB.out).mono ?_
  rintro e w2 ⟨rfl, rfl⟩
  go_wp2_with fail
  refine (decode_eq s p xs Nn 0 _ HG.out (by omega) hcl HD.out).mono ?_
  rintro e w4 ⟨B, d, rfl, hb4, hS, hc, _⟩
  have hK := (Kp.nil w4).new (PkC p B xs.length d) 27
  have hb5 := below_more hb4 hK.below
  have HS := Lib.hid (hS.below hK.below)
  have HC := Lib.hid hc
  clear hb4 hS hc
  have a1r := hK.row; have a1f := hK.free; have a1c := hK.cell; have a1l := hK.lt; have a1z := hK.froz
  go_wp2_with fail
  go_quiet (fail)
  have hK1 := hK.more (below_drewN (Below.refl _ _) nq)
  have hb6 := below_drewN hb5 nq
  have HS1 := Lib.hid (HS.out.below (below_drewN (Below.refl _ _) nq))
  clear a1r a1f a1c a1l a1z hK hb5
  obtain ⟨w5, hw5⟩ : ∃ w5, w5 = (w4.alloc (.cells (PkC p B xs.length d) 27)).drewN nq := ⟨_, rfl⟩
  rw [← hw5] at hK1 hb6 HS1 ⊢
  clear hw5
  have a1r := hK1.row; have a1f := hK1.free; have a1c := hK1.cell; have a1l := hK1.lt; have a1z := hK1.froz
  go_wp2_with fail
  refine (readLen_eq s.tail v' u' 0 _ htl9 hrd.out).mono ?_
  rintro e w6 ⟨rfl, rfl⟩
  go_wp2_with fail
  refine (encode_eq p B xs.length d xs T 0 _ (HG.out.below hb6) HS1.out HC.out hF.out E1.out).mono ?_
  rintro e w6 ⟨rfl, hb7⟩
  have hK2 := hK1.more hb7
  have hb8 := below_more hb6 hb7
  have HS2 := Lib.hid (HS1.out.below hb7)
  clear a1r a1f a1c a1l a1z hK1 hb6 hb7
  have a1r := hK2.row; have a1f := hK2.free; have a1c := hK2.cell; have a1l := hK2.lt; have a1z := hK2.froz
  go_wp2_with fail
  refine (right_eq p B xs.length d xs true _ (HG.out.below hb8) HS2.out hF.out hR0.out).mono ?_
  rintro e w7 ⟨rfl, hb9⟩
  have hK3 := hK2.more hb9
  have hb10 := below_more hb8 hb9
  have HS3 := Lib.hid (HS2.out.below hb9)
  clear a1r a1f a1c a1l a1z hK2 hb8 hb9
  have a1r := hK3.row; have a1f := hK3.free; have a1c := hK3.cell; have a1l := hK3.lt; have a1z := hK3.froz
  go_wp2_with fail
  refine (rest_eq p B xs.length d xs v' _ (HG.out.below hb10) HS3.out hF.out hR.out).mono ?_
  rintro e w8 ⟨rfl, hb11⟩
  have hb12 := below_more hb10 hb11
  clear a1r a1f a1c a1l a1z hK3 hb10 hb11
  go_wp2_with fail
  have hb := hb12
  clear hb12
  obtain ⟨x1, x2, x3⟩ := wrap_nat2 j qj
  obtain ⟨x4, x5, x6⟩ := wrap_nat2 U1 qU
  obtain ⟨x7, x8, x9⟩ := wrap_nat2 Nn qN
  refine wp_region_held_drew (S := (fun w' => Below w2.heap.size w2 w')) (by kernel_rfl) (hb.drew) (fun hHeld => ?_)
  refine wpAnyH_take (i := 0) (oi := ({ dst := some 105, op := Go.Op.move (Go.Operand.tmp 9), type := 9, pos := "outright.go:48", after := #[], guard := none } : Oper)) (v := ?vv1_0) rfl (by kernel_rfl) (by kernel_rfl) (by kernel_rfl) (fun _ _ _ h => h) (Or.inl ⟨by rfl, ?hy1_0⟩) (by assumption) ?rest1_0
  case hy1_0 => (intro w hSw; (try dsimp only at hSw); (try go_split_ands); go_simp; all_goals with_reducible rfl)
  try simp only [Act.put, List.setIfInBounds_toArray, List.set_cons_zero, List.set_cons_succ]
  refine wpAnyH_take (i := 1) (oi := ({ dst := some 106, op := Go.Op.index 9 (Go.Operand.tmp 105) (Go.Operand.const (Go.Value.int Go.IntKind.i64 0)), type := 5, pos := "outright.go:48", after := #[{ on := 0, ground := Go.Ground.data }], guard := none } : Oper)) (v := ?vv1_1) rfl (by kernel_rfl) (by kernel_rfl) (by kernel_rfl) (fun _ _ _ h => h) (Or.inl ⟨by rfl, ?hy1_1⟩) (by assumption) ?rest1_1
  case hy1_1 => (intro w hSw; (try dsimp only at hSw); (try go_split_ands); go_simp; all_goals with_reducible rfl)
  try simp only [Act.put, List.setIfInBounds_toArray, List.set_cons_zero, List.set_cons_succ]
  refine wpAnyH_take (i := 2) (oi := ({ dst := some 107, op := Go.Op.move (Go.Operand.tmp 0), type := 9, pos := "outright.go:48", after := #[], guard := none } : Oper)) (v := ?vv1_2) rfl (by kernel_rfl) (by kernel_rfl) (by kernel_rfl) (fun _ _ _ h => h) (Or.inl ⟨by rfl, ?hy1_2⟩) (by assumption) ?rest1_2
  case hy1_2 => (intro w hSw; (try dsimp only at hSw); (try go_split_ands); go_simp; all_goals with_reducible rfl)
  try simp only [Act.put, List.setIfInBounds_toArray, List.set_cons_zero, List.set_cons_succ]
  refine wpAnyH_take (i := 3) (oi := ({ dst := some 108, op := Go.Op.index 9 (Go.Operand.tmp 107) (Go.Operand.const (Go.Value.int Go.IntKind.i64 0)), type := 5, pos := "outright.go:48", after := #[{ on := 2, ground := Go.Ground.data }], guard := none } : Oper)) (v := ?vv1_3) rfl (by kernel_rfl) (by kernel_rfl) (by kernel_rfl) (fun _ _ _ h => h) (Or.inl ⟨by rfl, ?hy1_3⟩) (by assumption) ?rest1_3
  case hy1_3 => (intro w hSw; (try dsimp only at hSw); (try go_split_ands); go_simp; all_goals with_reducible rfl)
  try simp only [Act.put, List.setIfInBounds_toArray, List.set_cons_zero, List.set_cons_succ]
  refine wpAnyH_take (i := 4) (oi := ({ dst := some 109, op := Go.Op.binOp Go.BinOp.eql 5 (Go.Operand.tmp 106) (Go.Operand.tmp 108) 5, type := 4, pos := "outright.go:48", after := #[{ on := 1, ground := Go.Ground.data }, { on := 3, ground := Go.Ground.data }], guard := none } : Oper)) (v := ?vv1_4) rfl (by kernel_rfl) (by kernel_rfl) (by kernel_rfl) (fun _ _ _ h => h) (Or.inl ⟨by rfl, ?hy1_4⟩) (by assumption) ?rest1_4
  case hy1_4 => (intro w hSw; (try dsimp only at hSw); (try go_split_ands); go_simp; all_goals with_reducible rfl)
  try simp only [Act.put, List.setIfInBounds_toArray, List.set_cons_zero, List.set_cons_succ]
  refine wpAnyH_take (i := 5) (oi := ({ dst := some 110, op := Go.Op.move (Go.Operand.tmp 109), type := 4, pos := "outright.go:48", after := #[{ on := 4, ground := Go.Ground.data }], guard := none } : Oper)) (v := ?vv1_5) rfl (by kernel_rfl) (by kernel_rfl) (by kernel_rfl) (fun _ _ _ h => h) (Or.inl ⟨by rfl, ?hy1_5⟩) (by assumption) ?rest1_5
  case hy1_5 => (intro w hSw; (try dsimp only at hSw); (try go_split_ands); go_simp; all_goals with_reducible rfl)
  try simp only [Act.put, List.setIfInBounds_toArray, List.set_cons_zero, List.set_cons_succ]
  refine wpAnyH_take (i := 6) (oi := ({ dst := some 111, op := Go.Op.move (Go.Operand.tmp 9), type := 9, pos := "outright.go:48", after := #[{ on := 5, ground := Go.Ground.guard }], guard := some (5, true) } : Oper)) (v := ?vv1_6) rfl (by kernel_rfl) (by kernel_rfl) (by kernel_rfl) (fun _ _ _ h => h) (Or.inl ⟨by rfl, ?hy1_6⟩) (by assumption) ?rest1_6
  case hy1_6 => (intro w hSw; (try dsimp only at hSw); (try go_split_ands); go_simp; all_goals with_reducible rfl)
  try simp only [Act.put, List.setIfInBounds_toArray, List.set_cons_zero, List.set_cons_succ]
  refine wpAnyH_take (i := 7) (oi := ({ dst := some 112, op := Go.Op.move (Go.Operand.tmp 9), type := 9, pos := "outright.go:48", after := #[{ on := 5, ground := Go.Ground.guard }], guard := some (5, true) } : Oper)) (v := ?vv1_7) rfl (by kernel_rfl) (by kernel_rfl) (by kernel_rfl) (fun _ _ _ h => h) (Or.inl ⟨by rfl, ?hy1_7⟩) (by assumption) ?rest1_7
  case hy1_7 => (intro w hSw; (try dsimp only at hSw); (try go_split_ands); go_simp; all_goals with_reducible rfl)
  try simp only [Act.put, List.setIfInBounds_toArray, List.set_cons_zero, List.set_cons_succ]
  refine wpAnyH_take (i := 8) (oi := ({ dst := some 113, op := Go.Op.call { callee := Go.Callee.builtin Go.Builtin.len, args := #[Go.Operand.tmp 112], argTypes := #[9] }, type := 3, pos := "outright.go:48", after := #[{ on := 7, ground := Go.Ground.data }, { on := 5, ground := Go.Ground.guard }], guard := some (5, true) } : Oper)) (v := ?vv1_8) rfl (by kernel_rfl) (by kernel_rfl) (by kernel_rfl) (fun _ _ _ h => h) (Or.inl ⟨by rfl, ?hy1_8⟩) (by assumption) ?rest1_8
  case hy1_8 => (intro w hSw; (try dsimp only at hSw); (try go_split_ands); go_simp; all_goals with_reducible rfl)
  try simp only [Act.put, List.setIfInBounds_toArray, List.set_cons_zero, List.set_cons_succ]
  refine wpAnyH_take (i := 9) (oi := ({ dst := some 114, op := Go.Op.move (Go.Operand.tmp 6), type := 3, pos := "outright.go:48", after := #[{ on := 5, ground := Go.Ground.guard }], guard := some (5, true) } : Oper)) (v := ?vv1_9) rfl (by kernel_rfl) (by kernel_rfl) (by kernel_rfl) (fun _ _ _ h => h) (Or.inl ⟨by rfl, ?hy1_9⟩) (by assumption) ?rest1_9
  case hy1_9 => (intro w hSw; (try dsimp only at hSw); (try go_split_ands); go_simp; all_goals with_reducible rfl)
  try simp only [Act.put, List.setIfInBounds_toArray, List.set_cons_zero, List.set_cons_succ]
  refine wpAnyH_take (i := 10) (oi := ({ dst := some 115, op := Go.Op.binOp Go.BinOp.sub 3 (Go.Operand.tmp 113) (Go.Operand.tmp 114) 3, type := 3, pos := "outright.go:48", after := #[{ on := 8, ground := Go.Ground.data }, { on := 9, ground := Go.Ground.data }, { on := 5, ground := Go.Ground.guard }], guard := some (5, true) } : Oper)) (v := ?vv1_10) rfl (by kernel_rfl) (by kernel_rfl) (by kernel_rfl) (fun _ _ _ h => h) (Or.inl ⟨by rfl, ?hy1_10⟩) (by assumption) ?rest1_10
  case hy1_10 => (intro w hSw; (try dsimp only at hSw); (try go_split_ands); go_simp; all_goals with_reducible rfl)
  try simp only [Act.put, List.setIfInBounds_toArray, List.set_cons_zero, List.set_cons_succ]
  refine wpAnyH_take (i := 11) (oi := ({ dst := some 116, op := Go.Op.slice 9 (Go.Operand.tmp 111) (some (Go.Operand.tmp 115)) none none, type := 9, pos := "outright.go:48", after := #[{ on := 6, ground := Go.Ground.data }, { on := 10, ground := Go.Ground.data }, { on := 5, ground := Go.Ground.guard }], guard := some (5, true) } : Oper)) (v := ?vv1_11) rfl (by kernel_rfl) (by kernel_rfl) (by kernel_rfl) (fun _ _ _ h => h) (Or.inl ⟨by rfl, ?hy1_11⟩) (by assumption) ?rest1_11
  case hy1_11 => (intro w hSw; (try dsimp only at hSw); (try go_split_ands); go_simp; all_goals with_reducible rfl)
  try simp only [Act.put, List.setIfInBounds_toArray, List.set_cons_zero, List.set_cons_succ]
  refine wpAnyH_take (i := 12) (oi := ({ dst := some 117, op := Go.Op.move (Go.Operand.tmp 0), type := 9, pos := "outright.go:48", after := #[{ on := 5, ground := Go.Ground.guard }], guard := some (5, true) } : Oper)) (v := ?vv1_12) rfl (by kernel_rfl) (by kernel_rfl) (by kernel_rfl) (fun _ _ _ h => h) (Or.inl ⟨by rfl, ?hy1_12⟩) (by assumption) ?rest1_12
  case hy1_12 => (intro w hSw; (try dsimp only at hSw); (try go_split_ands); go_simp; all_goals with_reducible rfl)
  try simp only [Act.put, List.setIfInBounds_toArray, List.set_cons_zero, List.set_cons_succ]
  refine wpAnyH_take (i := 13) (oi := ({ dst := some 118, op := Go.Op.move (Go.Operand.tmp 7), type := 3, pos := "outright.go:48", after := #[{ on := 5, ground := Go.Ground.guard }], guard := some (5, true) } : Oper)) (v := ?vv1_13) rfl (by kernel_rfl) (by kernel_rfl) (by kernel_rfl) (fun _ _ _ h => h) (Or.inl ⟨by rfl, ?hy1_13⟩) (by assumption) ?rest1_13
  case hy1_13 => (intro w hSw; (try dsimp only at hSw); (try go_split_ands); go_simp; all_goals with_reducible rfl)
  try simp only [Act.put, List.setIfInBounds_toArray, List.set_cons_zero, List.set_cons_succ]
  refine wpAnyH_take (i := 14) (oi := ({ dst := some 119, op := Go.Op.binOp Go.BinOp.add 3 (Go.Operand.const (Go.Value.int Go.IntKind.i64 1)) (Go.Operand.tmp 118) 3, type := 3, pos := "outright.go:48", after := #[{ on := 13, ground := Go.Ground.data }, { on := 5, ground := Go.Ground.guard }], guard := some (5, true) } : Oper)) (v := ?vv1_14) rfl (by kernel_rfl) (by kernel_rfl) (by kernel_rfl) (fun _ _ _ h => h) (Or.inl ⟨by rfl, ?hy1_14⟩) (by assumption) ?rest1_14
  case hy1_14 => (intro w hSw; (try dsimp only at hSw); (try go_split_ands); go_simp; all_goals with_reducible rfl)
  try simp only [Act.put, List.setIfInBounds_toArray, List.set_cons_zero, List.set_cons_succ]
  refine wpAnyH_take (i := 15) (oi := ({ dst := some 120, op := Go.Op.move (Go.Operand.tmp 4), type := 3, pos := "outright.go:48", after := #[{ on := 5, ground := Go.Ground.guard }], guard := some (5, true) } : Oper)) (v := ?vv1_15) rfl (by kernel_rfl) (by kernel_rfl) (by kernel_rfl) (fun _ _ _ h => h) (Or.inl ⟨by rfl, ?hy1_15⟩) (by assumption) ?rest1_15
  case hy1_15 => (intro w hSw; (try dsimp only at hSw); (try go_split_ands); go_simp; all_goals with_reducible rfl)
  try simp only [Act.put, List.setIfInBounds_toArray, List.set_cons_zero, List.set_cons_succ]
  refine wpAnyH_take (i := 16) (oi := ({ dst := some 121, op := Go.Op.slice 9 (Go.Operand.tmp 117) (some (Go.Operand.tmp 119)) (some (Go.Operand.tmp 120)) none, type := 9, pos := "outright.go:48", after := #[{ on := 12, ground := Go.Ground.data }, { on := 14, ground := Go.Ground.data }, { on := 15, ground := Go.Ground.data }, { on := 5, ground := Go.Ground.guard }], guard := some (5, true) } : Oper)) (v := ?vv1_16) rfl (by kernel_rfl) (by kernel_rfl) (by kernel_rfl) (fun _ _ _ h => h) (Or.inl ⟨by rfl, ?hy1_16⟩) (by assumption) ?rest1_16
  case hy1_16 => (intro w hSw; (try dsimp only at hSw); (try go_split_ands); go_simp; all_goals with_reducible rfl)
  try simp only [Act.put, List.setIfInBounds_toArray, List.set_cons_zero, List.set_cons_succ]
  refine wpAnyH_take (i := 17) (oi := ({ dst := some 122, op := Go.Op.binOp Go.BinOp.eql 9 (Go.Operand.tmp 116) (Go.Operand.tmp 121) 9, type := 4, pos := "outright.go:48", after := #[{ on := 11, ground := Go.Ground.data }, { on := 16, ground := Go.Ground.data }, { on := 5, ground := Go.Ground.guard }], guard := some (5, true) } : Oper)) (v := ?vv1_17) rfl (by kernel_rfl) (by kernel_rfl) (by kernel_rfl) (fun _ _ _ h => h) (Or.inl ⟨by rfl, ?hy1_17⟩) (by assumption) ?rest1_17
  case hy1_17 => (intro w hSw; (try dsimp only at hSw); (try go_split_ands); go_simp; all_goals with_reducible rfl)
  try simp only [Act.put, List.setIfInBounds_toArray, List.set_cons_zero, List.set_cons_succ]
  refine wpAnyH_take (i := 18) (oi := ({ dst := some 123, op := Go.Op.pick (Go.Operand.tmp 110) (Go.Operand.tmp 122) (Go.Operand.const (Go.Value.bool false)), type := 4, pos := "outright.go:48", after := #[{ on := 5, ground := Go.Ground.data }, { on := 17, ground := Go.Ground.data }], guard := none } : Oper)) (v := ?vv1_18) rfl (by kernel_rfl) (by kernel_rfl) (by kernel_rfl) (fun _ _ _ h => h) (Or.inl ⟨by rfl, ?hy1_18⟩) (by assumption) ?rest1_18
  case hy1_18 => (intro w hSw; (try dsimp only at hSw); (try go_split_ands); go_simp; all_goals with_reducible rfl)
  try simp only [Act.put, List.setIfInBounds_toArray, List.set_cons_zero, List.set_cons_succ]
  refine wpAnyH_take (i := 19) (oi := ({ dst := some 124, op := Go.Op.move (Go.Operand.tmp 123), type := 4, pos := "outright.go:48", after := #[{ on := 18, ground := Go.Ground.data }, { on := 5, ground := Go.Ground.chain }], guard := none } : Oper)) (v := ?vv1_19) rfl (by kernel_rfl) (by kernel_rfl) (by kernel_rfl) (fun _ _ _ h => h) (Or.inl ⟨by rfl, ?hy1_19⟩) (by assumption) ?rest1_19
  case hy1_19 => (intro w hSw; (try dsimp only at hSw); (try go_split_ands); go_simp; all_goals with_reducible rfl)
  try simp only [Act.put, List.setIfInBounds_toArray, List.set_cons_zero, List.set_cons_succ]
  refine wpAnyH_take (i := 20) (oi := ({ dst := some 125, op := Go.Op.move (Go.Operand.tmp 9), type := 9, pos := "outright.go:48", after := #[{ on := 19, ground := Go.Ground.guard }], guard := some (19, true) } : Oper)) (v := ?vv1_20) rfl (by kernel_rfl) (by kernel_rfl) (by kernel_rfl) (fun _ _ _ h => h) (Or.inl ⟨by rfl, ?hy1_20⟩) (by assumption) ?rest1_20
  case hy1_20 => (intro w hSw; (try dsimp only at hSw); (try go_split_ands); go_simp; all_goals with_reducible rfl)
  try simp only [Act.put, List.setIfInBounds_toArray, List.set_cons_zero, List.set_cons_succ]
  refine wpAnyH_take (i := 21) (oi := ({ dst := some 126, op := Go.Op.call { callee := Go.Callee.builtin Go.Builtin.len, args := #[Go.Operand.tmp 125], argTypes := #[9] }, type := 3, pos := "outright.go:48", after := #[{ on := 20, ground := Go.Ground.data }, { on := 19, ground := Go.Ground.guard }], guard := some (19, true) } : Oper)) (v := ?vv1_21) rfl (by kernel_rfl) (by kernel_rfl) (by kernel_rfl) (fun _ _ _ h => h) (Or.inl ⟨by rfl, ?hy1_21⟩) (by assumption) ?rest1_21
  case hy1_21 => (intro w hSw; (try dsimp only at hSw); (try go_split_ands); go_simp; all_goals with_reducible rfl)
  try simp only [Act.put, List.setIfInBounds_toArray, List.set_cons_zero, List.set_cons_succ]
  refine wpAnyH_take (i := 22) (oi := ({ dst := some 127, op := Go.Op.move (Go.Operand.tmp 4), type := 3, pos := "outright.go:48", after := #[{ on := 19, ground := Go.Ground.guard }], guard := some (19, true) } : Oper)) (v := ?vv1_22) rfl (by kernel_rfl) (by kernel_rfl) (by kernel_rfl) (fun _ _ _ h => h) (Or.inl ⟨by rfl, ?hy1_22⟩) (by assumption) ?rest1_22
  case hy1_22 => (intro w hSw; (try dsimp only at hSw); (try go_split_ands); go_simp; all_goals with_reducible rfl)
  try simp only [Act.put, List.setIfInBounds_toArray, List.set_cons_zero, List.set_cons_succ]
  refine wpAnyH_take (i := 23) (oi := ({ dst := some 128, op := Go.Op.binOp Go.BinOp.leq 3 (Go.Operand.tmp 126) (Go.Operand.tmp 127) 3, type := 4, pos := "outright.go:48", after := #[{ on := 21, ground := Go.Ground.data }, { on := 22, ground := Go.Ground.data }, { on := 19, ground := Go.Ground.guard }], guard := some (19, true) } : Oper)) (v := ?vv1_23) rfl (by kernel_rfl) (by kernel_rfl) (by kernel_rfl) (fun _ _ _ h => h) (Or.inl ⟨by rfl, ?hy1_23⟩) (by assumption) ?rest1_23
  case hy1_23 => (intro w hSw; (try dsimp only at hSw); (try go_split_ands); go_simp; all_goals with_reducible rfl)
  try simp only [Act.put, List.setIfInBounds_toArray, List.set_cons_zero, List.set_cons_succ]
  refine wpAnyH_take (i := 24) (oi := ({ dst := some 129, op := Go.Op.pick (Go.Operand.tmp 124) (Go.Operand.tmp 128) (Go.Operand.const (Go.Value.bool false)), type := 4, pos := "outright.go:48", after := #[{ on := 19, ground := Go.Ground.data }, { on := 23, ground := Go.Ground.data }], guard := none } : Oper)) (v := ?vv1_24) rfl (by kernel_rfl) (by kernel_rfl) (by kernel_rfl) (fun _ _ _ h => h) (Or.inl ⟨by rfl, ?hy1_24⟩) (by assumption) ?rest1_24
  case hy1_24 => (intro w hSw; (try dsimp only at hSw); (try go_split_ands); go_simp; all_goals with_reducible rfl)
  try simp only [Act.put, List.setIfInBounds_toArray, List.set_cons_zero, List.set_cons_succ]
  refine wpAnyH_take (i := 25) (oi := ({ dst := some 130, op := Go.Op.move (Go.Operand.tmp 129), type := 4, pos := "outright.go:48", after := #[{ on := 24, ground := Go.Ground.data }, { on := 19, ground := Go.Ground.chain }], guard := none } : Oper)) (v := ?vv1_25) rfl (by kernel_rfl) (by kernel_rfl) (by kernel_rfl) (fun _ _ _ h => h) (Or.inl ⟨by rfl, ?hy1_25⟩) (by assumption) ?rest1_25
  case hy1_25 => (intro w hSw; (try dsimp only at hSw); (try go_split_ands); go_simp; all_goals with_reducible rfl)
  try simp only [Act.put, List.setIfInBounds_toArray, List.set_cons_zero, List.set_cons_succ]
  refine wpAnyH_ready (rs := [26]) (by kernel_rfl) (by simp) ?_
  refine AllReadyH.cons (o := ({ dst := some 131, op := Go.Op.call { callee := Go.Callee.value (Go.Operand.func 9), args := #[], argTypes := #[] }, type := 4, pos := "outright.go:48", after := #[{ on := 25, ground := Go.Ground.chain }, { on := 25, ground := Go.Ground.guard }], guard := some (25, true) } : Oper)) rfl (fun K hK => ?_) AllReadyH.nil
  go_simp
  (go_at_call 9; refine (awake5_any _ (HG.out.below hHeld)).mono ?_; rintro e w6 ⟨rfl, hb6⟩)
  refine hK.out _ _ ?_ (fun hHeld => ?_)
  · (exact below_more hHeld hb6)
  clear hK K
  try simp only [Act.put, List.setIfInBounds_toArray, List.set_cons_zero, List.set_cons_succ]
  refine wpAnyH_take (i := 27) (oi := ({ dst := some 132, op := Go.Op.pick (Go.Operand.tmp 130) (Go.Operand.tmp 131) (Go.Operand.const (Go.Value.bool false)), type := 4, pos := "outright.go:48", after := #[{ on := 25, ground := Go.Ground.data }, { on := 26, ground := Go.Ground.data }], guard := none } : Oper)) (v := ?vv1_27) rfl (by kernel_rfl) (by kernel_rfl) (by kernel_rfl) (fun _ _ _ h => h) (Or.inl ⟨by rfl, ?hy1_27⟩) (by assumption) ?rest1_27
  case hy1_27 => (intro w hSw; (try dsimp only at hSw); (try go_split_ands); go_simp; all_goals with_reducible rfl)
  try simp only [Act.put, List.setIfInBounds_toArray, List.set_cons_zero, List.set_cons_succ]
  refine wpAnyH_take (i := 28) (oi := ({ dst := some 2, op := Go.Op.assign (Go.Operand.tmp 132), type := 4, pos := "outright.go:48", after := #[{ on := 27, ground := Go.Ground.data }, { on := 26, ground := Go.Ground.chain }, { on := 0, ground := Go.Ground.phase }, { on := 1, ground := Go.Ground.phase }, { on := 2, ground := Go.Ground.phase }, { on := 3, ground := Go.Ground.phase }, { on := 4, ground := Go.Ground.phase }, { on := 5, ground := Go.Ground.phase }, { on := 6, ground := Go.Ground.phase }, { on := 7, ground := Go.Ground.phase }, { on := 8, ground := Go.Ground.phase }, { on := 9, ground := Go.Ground.phase }, { on := 10, ground := Go.Ground.phase }, { on := 11, ground := Go.Ground.phase }, { on := 12, ground := Go.Ground.phase }, { on := 13, ground := Go.Ground.phase }, { on := 14, ground := Go.Ground.phase }, { on := 15, ground := Go.Ground.phase }, { on := 16, ground := Go.Ground.phase }, { on := 17, ground := Go.Ground.phase }, { on := 18, ground := Go.Ground.phase }, { on := 19, ground := Go.Ground.phase }, { on := 20, ground := Go.Ground.phase }, { on := 21, ground := Go.Ground.phase }, { on := 22, ground := Go.Ground.phase }, { on := 23, ground := Go.Ground.phase }, { on := 24, ground := Go.Ground.phase }, { on := 25, ground := Go.Ground.phase }, { on := 26, ground := Go.Ground.phase }, { on := 27, ground := Go.Ground.phase }], guard := none } : Oper)) (v := ?vv1_28) rfl (by kernel_rfl) (by kernel_rfl) (by kernel_rfl) (fun _ _ _ h => h) (Or.inl ⟨by rfl, ?hy1_28⟩) (by assumption) ?rest1_28
  case hy1_28 => (intro w hSw; (try dsimp only at hSw); (try go_split_ands); go_simp; all_goals with_reducible rfl)
  try simp only [Act.put, List.setIfInBounds_toArray, List.set_cons_zero, List.set_cons_succ]
  refine wpAnyH_done (by kernel_rfl) ?_ _
  clear x1 x2 x3 x4 x5 x6 x7 x8 x9
  go_wp2_with fail
  go_ret
  exact ⟨rfl, hHeld⟩
set_option maxHeartbeats 4000000 in
theorem walk_was_true (w : World) (HG : Hid (Glo w)) (s : List UInt8) (hsl : s.length ≤ 9223372036854775807) (HGB : Hid (decide (20000 < s.length) = false)) (hl2 : s.length ≤ 20000) (hcl : (cutR s).1.length ≤ 90000) (p : Pk) (xs : List (List UInt8 × Int)) (n v u : Int) (b : UInt8) (r : List UInt8) (hW : Was s p xs n b r v u) (hc1 : (p.ty == 1) = true) (HD : Hid (decR s = (p, xs, n, 0))) :
    Calls Tryz.prog 4 #[.string ⟨s.toArray⟩] w fun e w' => e = .returned (.bool true) ∧ Below w.heap.size w w' := by
  obtain ⟨u', v', j, T, rfl, rfl, hT, hTl, hT1, hTn, hle, hdr, hTA, htl, HA⟩ := was_facts hW
  have hO := Lib.hid hW.ok
  have hF := Lib.hid hW.fit
  have hR := Lib.hid hW.rest
  have hrd : Hid (rdR s.tail = ((v' : Int), (u' : Int), 0)) := by show _ = _; rw [htl]; exact hW.rd
  have hn := hW.n
  have hty := hW.ty
  have hbb := b.toNat_lt
  have E1 : Hid (encR p xs = (T, 0)) := by show _ = _; unfold encR; rw [if_pos hO.out.lo, hT]
  have hlev : Hid (p.ty = 1 → (p.level == 4) = true) := fun e => by
    have := hO.out.con e
    simp only [conR, Bool.and_eq_true] at this
    exact this.1
  have hR0 : Hid (decide (0 ≤ restN p xs) = true) := by show _ = _; simpa using hO.out.lo
  have hTs : (T.length : Int) - (v' : Int) = (j : Int) := by omega
  have e1 : (b.toNat : Int).tdiv 16 = (b.toNat : Int) / 16 := by rw [Int.tdiv_eq_ediv_of_nonneg (by omega)]
  have d1 : decide (n < 2) = false := by have := hW.u1; have := hW.lo; simp; omega
  have d2 : decide ((s.length : Int) < n) = false := by simp; omega
  have d3 : (p.ty == (b.toNat : Int) / 16) = true := by simpa using hty
  have h1l : 1 ≤ s.length := by omega
  have hjl : j ≤ T.length := by omega
  have hTb : T.length ≤ 20000 := by omega
  have hT0 : 0 < T.length := by omega
  obtain ⟨U1, hU1⟩ : ∃ U1, U1 = 1 + u' := ⟨_, rfl⟩
  obtain ⟨Nn, hNn⟩ : ∃ Nn, Nn = 1 + u' + v' := ⟨_, rfl⟩
  have z1 : (1 : Int) + (u' : Int) = (U1 : Int) := by omega
  have z2 : (U1 : Int) + (v' : Int) = (Nn : Int) := by omega
  have qj : j ≤ 1000000 := by omega
  have qU : U1 ≤ 1000000 := by omega
  have qN : Nn ≤ 1000000 := by omega
  have hTle : decide ((T.length : Int) ≤ (Nn : Int)) = true := by simp; omega
  have hEq : T.drop j = (s.take Nn).drop U1 := by rw [hNn, hU1]; exact hdr
  have hTle2 : decide (T.length ≤ Nn) = true := by simp; omega
  have d2n : decide (s.length < Nn) = false := by simp; omega
  have d1n : decide (Nn < 2) = false := by have := hW.u1; have := hW.lo; simp; omega
  have g7 : U1 ≤ Nn := by omega
  have g8 : Nn ≤ s.length := by omega
  have g5 : (U1 : Int) ≤ (Nn : Int) := by omega
  have g6 : (Nn : Int) ≤ (s.length : Int) := by omega
  have htl9 : s.tail.length ≤ 9223372036854775807 := by rw [List.length_tail]; omega
  have hs0 : 0 < s.length := by omega
  have hj0 : (0 : Int) ≤ (j : Int) := by omega
  have hj1 : (j : Int) ≤ (T.length : Int) := by omega
  have hn9 : n = (Nn : Int) := by omega
  subst hn9
  clear hW hT hty htl hTl hdr hn hU1 hNn
  have hle4 : (p.ty == 1) = true → (p.level == 4) = true := fun e => hlev.out (by simpa using e)
  rw [hc1] at hle4
  try simp at hle4
  go_enter Tryz.func4, Tryz.ntmps4
  go_wp2_with fail
  refine (sgreat_any s false _ hsl HGB.out).mono ?_
  rintro e w2 ⟨rfl, rfl⟩
  go_wp2_with fail
  refine (decode_eq s p xs Nn 0 _ HG.out (by omega) hcl HD.out).mono ?_
  rintro e w4 ⟨B, d, rfl, hb4, hS, hc, _⟩
  have hK := (Kp.nil w4).new (PkC p B xs.length d) 27
  have hb5 := below_more hb4 hK.below
  have HS := Lib.hid (hS.below hK.below)
  have HC := Lib.hid hc
  clear hb4 hS hc
  have a1r := hK.row; have a1f := hK.free; have a1c := hK.cell; have a1l := hK.lt; have a1z := hK.froz
  go_wp2_with fail
  go_quiet (fail)
  have hK1 := hK.more (below_drewN (Below.refl _ _) nq)
  have hb6 := below_drewN hb5 nq
  have HS1 := Lib.hid (HS.out.below (below_drewN (Below.refl _ _) nq))
  clear a1r a1f a1c a1l a1z hK hb5
  obtain ⟨w5, hw5⟩ : ∃ w5, w5 = (w4.alloc (.cells (PkC p B xs.length d) 27)).drewN nq := ⟨_, rfl⟩
  rw [← hw5] at hK1 hb6 HS1 ⊢
  clear hw5
  have a1r := hK1.row; have a1f := hK1.free; have a1c := hK1.cell; have a1l := hK1.lt; have a1z := hK1.froz
  go_wp2_with fail
  refine (readLen_eq s.tail v' u' 0 _ htl9 hrd.out).mono ?_
  rintro e w6 ⟨rfl, rfl⟩
  go_wp2_with fail
  refine (encode_eq p B xs.length d xs T 0 _ (HG.out.below hb6) HS1.out HC.out hF.out E1.out).mono ?_
  rintro e w6 ⟨rfl, hb7⟩
  have hK2 := hK1.more hb7
  have hb8 := below_more hb6 hb7
  have HS2 := Lib.hid (HS1.out.below hb7)
  clear a1r a1f a1c a1l a1z hK1 hb6 hb7
  have a1r := hK2.row; have a1f := hK2.free; have a1c := hK2.cell; have a1l := hK2.lt; have a1z := hK2.froz
  go_wp2_with fail
  refine (right_eq p B xs.length d xs true _ (HG.out.below hb8) HS2.out hF.out hR0.out).mono ?_
  rintro e w7 ⟨rfl, hb9⟩
  have hK3 := hK2.more hb9
  have hb10 := below_more hb8 hb9
  have HS3 := Lib.hid (HS2.out.below hb9)
  clear a1r a1f a1c a1l a1z hK2 hb8 hb9
  have a1r := hK3.row; have a1f := hK3.free; have a1c := hK3.cell; have a1l := hK3.lt; have a1z := hK3.froz
  go_wp2_with fail
  refine (rest_eq p B xs.length d xs v' _ (HG.out.below hb10) HS3.out hF.out hR.out).mono ?_
  rintro e w8 ⟨rfl, hb11⟩
  have hb12 := below_more hb10 hb11
  clear a1r a1f a1c a1l a1z hK3 hb10 hb11
  go_wp2_with fail
  have hb := hb12
  clear hb12
  obtain ⟨x1, x2, x3⟩ := wrap_nat2 j qj
  obtain ⟨x4, x5, x6⟩ := wrap_nat2 U1 qU
  obtain ⟨x7, x8, x9⟩ := wrap_nat2 Nn qN
  refine wp_region_held_drew (S := (fun w' => Below w2.heap.size w2 w')) (by kernel_rfl) (hb.drew) (fun hHeld => ?_)
  refine wpAnyH_take (i := 0) (oi := ({ dst := some 105, op := Go.Op.move (Go.Operand.tmp 9), type := 9, pos := "outright.go:48", after := #[], guard := none } : Oper)) (v := ?vv2_0) rfl (by kernel_rfl) (by kernel_rfl) (by kernel_rfl) (fun _ _ _ h => h) (Or.inl ⟨by rfl, ?hy2_0⟩) (by assumption) ?rest2_0
  case hy2_0 => (intro w hSw; (try dsimp only at hSw); (try go_split_ands); go_simp; all_goals with_reducible rfl)
  try simp only [Act.put, List.setIfInBounds_toArray, List.set_cons_zero, List.set_cons_succ]
  refine wpAnyH_take (i := 1) (oi := ({ dst := some 106, op := Go.Op.index 9 (Go.Operand.tmp 105) (Go.Operand.const (Go.Value.int Go.IntKind.i64 0)), type := 5, pos := "outright.go:48", after := #[{ on := 0, ground := Go.Ground.data }], guard := none } : Oper)) (v := ?vv2_1) rfl (by kernel_rfl) (by kernel_rfl) (by kernel_rfl) (fun _ _ _ h => h) (Or.inl ⟨by rfl, ?hy2_1⟩) (by assumption) ?rest2_1
  case hy2_1 => (intro w hSw; (try dsimp only at hSw); (try go_split_ands); go_simp; all_goals with_reducible rfl)
  try simp only [Act.put, List.setIfInBounds_toArray, List.set_cons_zero, List.set_cons_succ]
  refine wpAnyH_take (i := 2) (oi := ({ dst := some 107, op := Go.Op.move (Go.Operand.tmp 0), type := 9, pos := "outright.go:48", after := #[], guard := none } : Oper)) (v := ?vv2_2) rfl (by kernel_rfl) (by kernel_rfl) (by kernel_rfl) (fun _ _ _ h => h) (Or.inl ⟨by rfl, ?hy2_2⟩) (by assumption) ?rest2_2
  case hy2_2 => (intro w hSw; (try dsimp only at hSw); (try go_split_ands); go_simp; all_goals with_reducible rfl)
  try simp only [Act.put, List.setIfInBounds_toArray, List.set_cons_zero, List.set_cons_succ]
  refine wpAnyH_take (i := 3) (oi := ({ dst := some 108, op := Go.Op.index 9 (Go.Operand.tmp 107) (Go.Operand.const (Go.Value.int Go.IntKind.i64 0)), type := 5, pos := "outright.go:48", after := #[{ on := 2, ground := Go.Ground.data }], guard := none } : Oper)) (v := ?vv2_3) rfl (by kernel_rfl) (by kernel_rfl) (by kernel_rfl) (fun _ _ _ h => h) (Or.inl ⟨by rfl, ?hy2_3⟩) (by assumption) ?rest2_3
  case hy2_3 => (intro w hSw; (try dsimp only at hSw); (try go_split_ands); go_simp; all_goals with_reducible rfl)
  try simp only [Act.put, List.setIfInBounds_toArray, List.set_cons_zero, List.set_cons_succ]
  refine wpAnyH_take (i := 4) (oi := ({ dst := some 109, op := Go.Op.binOp Go.BinOp.eql 5 (Go.Operand.tmp 106) (Go.Operand.tmp 108) 5, type := 4, pos := "outright.go:48", after := #[{ on := 1, ground := Go.Ground.data }, { on := 3, ground := Go.Ground.data }], guard := none } : Oper)) (v := ?vv2_4) rfl (by kernel_rfl) (by kernel_rfl) (by kernel_rfl) (fun _ _ _ h => h) (Or.inl ⟨by rfl, ?hy2_4⟩) (by assumption) ?rest2_4
  case hy2_4 => (intro w hSw; (try dsimp only at hSw); (try go_split_ands); go_simp; all_goals with_reducible rfl)
  try simp only [Act.put, List.setIfInBounds_toArray, List.set_cons_zero, List.set_cons_succ]
  refine wpAnyH_take (i := 5) (oi := ({ dst := some 110, op := Go.Op.move (Go.Operand.tmp 109), type := 4, pos := "outright.go:48", after := #[{ on := 4, ground := Go.Ground.data }], guard := none } : Oper)) (v := ?vv2_5) rfl (by kernel_rfl) (by kernel_rfl) (by kernel_rfl) (fun _ _ _ h => h) (Or.inl ⟨by rfl, ?hy2_5⟩) (by assumption) ?rest2_5
  case hy2_5 => (intro w hSw; (try dsimp only at hSw); (try go_split_ands); go_simp; all_goals with_reducible rfl)
  try simp only [Act.put, List.setIfInBounds_toArray, List.set_cons_zero, List.set_cons_succ]
  refine wpAnyH_take (i := 6) (oi := ({ dst := some 111, op := Go.Op.move (Go.Operand.tmp 9), type := 9, pos := "outright.go:48", after := #[{ on := 5, ground := Go.Ground.guard }], guard := some (5, true) } : Oper)) (v := ?vv2_6) rfl (by kernel_rfl) (by kernel_rfl) (by kernel_rfl) (fun _ _ _ h => h) (Or.inl ⟨by rfl, ?hy2_6⟩) (by assumption) ?rest2_6
  case hy2_6 => (intro w hSw; (try dsimp only at hSw); (try go_split_ands); go_simp; all_goals with_reducible rfl)
  try simp only [Act.put, List.setIfInBounds_toArray, List.set_cons_zero, List.set_cons_succ]
  refine wpAnyH_take (i := 7) (oi := ({ dst := some 112, op := Go.Op.move (Go.Operand.tmp 9), type := 9, pos := "outright.go:48", after := #[{ on := 5, ground := Go.Ground.guard }], guard := some (5, true) } : Oper)) (v := ?vv2_7) rfl (by kernel_rfl) (by kernel_rfl) (by kernel_rfl) (fun _ _ _ h => h) (Or.inl ⟨by rfl, ?hy2_7⟩) (by assumption) ?rest2_7
  case hy2_7 => (intro w hSw; (try dsimp only at hSw); (try go_split_ands); go_simp; all_goals with_reducible rfl)
  try simp only [Act.put, List.setIfInBounds_toArray, List.set_cons_zero, List.set_cons_succ]
  refine wpAnyH_take (i := 8) (oi := ({ dst := some 113, op := Go.Op.call { callee := Go.Callee.builtin Go.Builtin.len, args := #[Go.Operand.tmp 112], argTypes := #[9] }, type := 3, pos := "outright.go:48", after := #[{ on := 7, ground := Go.Ground.data }, { on := 5, ground := Go.Ground.guard }], guard := some (5, true) } : Oper)) (v := ?vv2_8) rfl (by kernel_rfl) (by kernel_rfl) (by kernel_rfl) (fun _ _ _ h => h) (Or.inl ⟨by rfl, ?hy2_8⟩) (by assumption) ?rest2_8
  case hy2_8 => (intro w hSw; (try dsimp only at hSw); (try go_split_ands); go_simp; all_goals with_reducible rfl)
  try simp only [Act.put, List.setIfInBounds_toArray, List.set_cons_zero, List.set_cons_succ]
  refine wpAnyH_take (i := 9) (oi := ({ dst := some 114, op := Go.Op.move (Go.Operand.tmp 6), type := 3, pos := "outright.go:48", after := #[{ on := 5, ground := Go.Ground.guard }], guard := some (5, true) } : Oper)) (v := ?vv2_9) rfl (by kernel_rfl) (by kernel_rfl) (by kernel_rfl) (fun _ _ _ h => h) (Or.inl ⟨by rfl, ?hy2_9⟩) (by assumption) ?rest2_9
  case hy2_9 => (intro w hSw; (try dsimp only at hSw); (try go_split_ands); go_simp; all_goals with_reducible rfl)
  try simp only [Act.put, List.setIfInBounds_toArray, List.set_cons_zero, List.set_cons_succ]
  refine wpAnyH_take (i := 10) (oi := ({ dst := some 115, op := Go.Op.binOp Go.BinOp.sub 3 (Go.Operand.tmp 113) (Go.Operand.tmp 114) 3, type := 3, pos := "outright.go:48", after := #[{ on := 8, ground := Go.Ground.data }, { on := 9, ground := Go.Ground.data }, { on := 5, ground := Go.Ground.guard }], guard := some (5, true) } : Oper)) (v := ?vv2_10) rfl (by kernel_rfl) (by kernel_rfl) (by kernel_rfl) (fun _ _ _ h => h) (Or.inl ⟨by rfl, ?hy2_10⟩) (by assumption) ?rest2_10
  case hy2_10 => (intro w hSw; (try dsimp only at hSw); (try go_split_ands); go_simp; all_goals with_reducible rfl)
  try simp only [Act.put, List.setIfInBounds_toArray, List.set_cons_zero, List.set_cons_succ]
  refine wpAnyH_take (i := 11) (oi := ({ dst := some 116, op := Go.Op.slice 9 (Go.Operand.tmp 111) (some (Go.Operand.tmp 115)) none none, type := 9, pos := "outright.go:48", after := #[{ on := 6, ground := Go.Ground.data }, { on := 10, ground := Go.Ground.data }, { on := 5, ground := Go.Ground.guard }], guard := some (5, true) } : Oper)) (v := ?vv2_11) rfl (by kernel_rfl) (by kernel_rfl) (by kernel_rfl) (fun _ _ _ h => h) (Or.inl ⟨by rfl, ?hy2_11⟩) (by assumption) ?rest2_11
  case hy2_11 => (intro w hSw; (try dsimp only at hSw); (try go_split_ands); go_simp; all_goals with_reducible rfl)
  try simp only [Act.put, List.setIfInBounds_toArray, List.set_cons_zero, List.set_cons_succ]
  refine wpAnyH_take (i := 12) (oi := ({ dst := some 117, op := Go.Op.move (Go.Operand.tmp 0), type := 9, pos := "outright.go:48", after := #[{ on := 5, ground := Go.Ground.guard }], guard := some (5, true) } : Oper)) (v := ?vv2_12) rfl (by kernel_rfl) (by kernel_rfl) (by kernel_rfl) (fun _ _ _ h => h) (Or.inl ⟨by rfl, ?hy2_12⟩) (by assumption) ?rest2_12
  case hy2_12 => (intro w hSw; (try dsimp only at hSw); (try go_split_ands); go_simp; all_goals with_reducible rfl)
  try simp only [Act.put, List.setIfInBounds_toArray, List.set_cons_zero, List.set_cons_succ]
  refine wpAnyH_take (i := 13) (oi := ({ dst := some 118, op := Go.Op.move (Go.Operand.tmp 7), type := 3, pos := "outright.go:48", after := #[{ on := 5, ground := Go.Ground.guard }], guard := some (5, true) } : Oper)) (v := ?vv2_13) rfl (by kernel_rfl) (by kernel_rfl) (by kernel_rfl) (fun _ _ _ h => h) (Or.inl ⟨by rfl, ?hy2_13⟩) (by assumption) ?rest2_13
  case hy2_13 => (intro w hSw; (try dsimp only at hSw); (try go_split_ands); go_simp; all_goals with_reducible rfl)
  try simp only [Act.put, List.setIfInBounds_toArray, List.set_cons_zero, List.set_cons_succ]
  refine wpAnyH_take (i := 14) (oi := ({ dst := some 119, op := Go.Op.binOp Go.BinOp.add 3 (Go.Operand.const (Go.Value.int Go.IntKind.i64 1)) (Go.Operand.tmp 118) 3, type := 3, pos := "outright.go:48", after := #[{ on := 13, ground := Go.Ground.data }, { on := 5, ground := Go.Ground.guard }], guard := some (5, true) } : Oper)) (v := ?vv2_14) rfl (by kernel_rfl) (by kernel_rfl) (by kernel_rfl) (fun _ _ _ h => h) (Or.inl ⟨by rfl, ?hy2_14⟩) (by assumption) ?rest2_14
  case hy2_14 => (intro w hSw; (try dsimp only at hSw); (try go_split_ands); go_simp; all_goals with_reducible rfl)
  try simp only [Act.put, List.setIfInBounds_toArray, List.set_cons_zero, List.set_cons_succ]
  refine wpAnyH_take (i := 15) (oi := ({ dst := some 120, op := Go.Op.move (Go.Operand.tmp 4), type := 3, pos := "outright.go:48", after := #[{ on := 5, ground := Go.Ground.guard }], guard := some (5, true) } : Oper)) (v := ?vv2_15) rfl (by kernel_rfl) (by kernel_rfl) (by kernel_rfl) (fun _ _ _ h => h) (Or.inl ⟨by rfl, ?hy2_15⟩) (by assumption) ?rest2_15
  case hy2_15 => (intro w hSw; (try dsimp only at hSw); (try go_split_ands); go_simp; all_goals with_reducible rfl)
  try simp only [Act.put, List.setIfInBounds_toArray, List.set_cons_zero, List.set_cons_succ]
  refine wpAnyH_take (i := 16) (oi := ({ dst := some 121, op := Go.Op.slice 9 (Go.Operand.tmp 117) (some (Go.Operand.tmp 119)) (some (Go.Operand.tmp 120)) none, type := 9, pos := "outright.go:48", after := #[{ on := 12, ground := Go.Ground.data }, { on := 14, ground := Go.Ground.data }, { on := 15, ground := Go.Ground.data }, { on := 5, ground := Go.Ground.guard }], guard := some (5, true) } : Oper)) (v := ?vv2_16) rfl (by kernel_rfl) (by kernel_rfl) (by kernel_rfl) (fun _ _ _ h => h) (Or.inl ⟨by rfl, ?hy2_16⟩) (by assumption) ?rest2_16
  case hy2_16 => (intro w hSw; (try dsimp only at hSw); (try go_split_ands); go_simp; all_goals with_reducible rfl)
  try simp only [Act.put, List.setIfInBounds_toArray, List.set_cons_zero, List.set_cons_succ]
  refine wpAnyH_take (i := 17) (oi := ({ dst := some 122, op := Go.Op.binOp Go.BinOp.eql 9 (Go.Operand.tmp 116) (Go.Operand.tmp 121) 9, type := 4, pos := "outright.go:48", after := #[{ on := 11, ground := Go.Ground.data }, { on := 16, ground := Go.Ground.data }, { on := 5, ground := Go.Ground.guard }], guard := some (5, true) } : Oper)) (v := ?vv2_17) rfl (by kernel_rfl) (by kernel_rfl) (by kernel_rfl) (fun _ _ _ h => h) (Or.inl ⟨by rfl, ?hy2_17⟩) (by assumption) ?rest2_17
  case hy2_17 => (intro w hSw; (try dsimp only at hSw); (try go_split_ands); go_simp; all_goals with_reducible rfl)
  try simp only [Act.put, List.setIfInBounds_toArray, List.set_cons_zero, List.set_cons_succ]
  refine wpAnyH_take (i := 18) (oi := ({ dst := some 123, op := Go.Op.pick (Go.Operand.tmp 110) (Go.Operand.tmp 122) (Go.Operand.const (Go.Value.bool false)), type := 4, pos := "outright.go:48", after := #[{ on := 5, ground := Go.Ground.data }, { on := 17, ground := Go.Ground.data }], guard := none } : Oper)) (v := ?vv2_18) rfl (by kernel_rfl) (by kernel_rfl) (by kernel_rfl) (fun _ _ _ h => h) (Or.inl ⟨by rfl, ?hy2_18⟩) (by assumption) ?rest2_18
  case hy2_18 => (intro w hSw; (try dsimp only at hSw); (try go_split_ands); go_simp; all_goals with_reducible rfl)
  try simp only [Act.put, List.setIfInBounds_toArray, List.set_cons_zero, List.set_cons_succ]
  refine wpAnyH_take (i := 19) (oi := ({ dst := some 124, op := Go.Op.move (Go.Operand.tmp 123), type := 4, pos := "outright.go:48", after := #[{ on := 18, ground := Go.Ground.data }, { on := 5, ground := Go.Ground.chain }], guard := none } : Oper)) (v := ?vv2_19) rfl (by kernel_rfl) (by kernel_rfl) (by kernel_rfl) (fun _ _ _ h => h) (Or.inl ⟨by rfl, ?hy2_19⟩) (by assumption) ?rest2_19
  case hy2_19 => (intro w hSw; (try dsimp only at hSw); (try go_split_ands); go_simp; all_goals with_reducible rfl)
  try simp only [Act.put, List.setIfInBounds_toArray, List.set_cons_zero, List.set_cons_succ]
  refine wpAnyH_take (i := 20) (oi := ({ dst := some 125, op := Go.Op.move (Go.Operand.tmp 9), type := 9, pos := "outright.go:48", after := #[{ on := 19, ground := Go.Ground.guard }], guard := some (19, true) } : Oper)) (v := ?vv2_20) rfl (by kernel_rfl) (by kernel_rfl) (by kernel_rfl) (fun _ _ _ h => h) (Or.inl ⟨by rfl, ?hy2_20⟩) (by assumption) ?rest2_20
  case hy2_20 => (intro w hSw; (try dsimp only at hSw); (try go_split_ands); go_simp; all_goals with_reducible rfl)
  try simp only [Act.put, List.setIfInBounds_toArray, List.set_cons_zero, List.set_cons_succ]
  refine wpAnyH_take (i := 21) (oi := ({ dst := some 126, op := Go.Op.call { callee := Go.Callee.builtin Go.Builtin.len, args := #[Go.Operand.tmp 125], argTypes := #[9] }, type := 3, pos := "outright.go:48", after := #[{ on := 20, ground := Go.Ground.data }, { on := 19, ground := Go.Ground.guard }], guard := some (19, true) } : Oper)) (v := ?vv2_21) rfl (by kernel_rfl) (by kernel_rfl) (by kernel_rfl) (fun _ _ _ h => h) (Or.inl ⟨by rfl, ?hy2_21⟩) (by assumption) ?rest2_21
  case hy2_21 => (intro w hSw; (try dsimp only at hSw); (try go_split_ands); go_simp; all_goals with_reducible rfl)
  try simp only [Act.put, List.setIfInBounds_toArray, List.set_cons_zero, List.set_cons_succ]
  refine wpAnyH_take (i := 22) (oi := ({ dst := some 127, op := Go.Op.move (Go.Operand.tmp 4), type := 3, pos := "outright.go:48", after := #[{ on := 19, ground := Go.Ground.guard }], guard := some (19, true) } : Oper)) (v := ?vv2_22) rfl (by kernel_rfl) (by kernel_rfl) (by kernel_rfl) (fun _ _ _ h => h) (Or.inl ⟨by rfl, ?hy2_22⟩) (by assumption) ?rest2_22
  case hy2_22 => (intro w hSw; (try dsimp only at hSw); (try go_split_ands); go_simp; all_goals with_reducible rfl)
  try simp only [Act.put, List.setIfInBounds_toArray, List.set_cons_zero, List.set_cons_succ]
  refine wpAnyH_take (i := 23) (oi := ({ dst := some 128, op := Go.Op.binOp Go.BinOp.leq 3 (Go.Operand.tmp 126) (Go.Operand.tmp 127) 3, type := 4, pos := "outright.go:48", after := #[{ on := 21, ground := Go.Ground.data }, { on := 22, ground := Go.Ground.data }, { on := 19, ground := Go.Ground.guard }], guard := some (19, true) } : Oper)) (v := ?vv2_23) rfl (by kernel_rfl) (by kernel_rfl) (by kernel_rfl) (fun _ _ _ h => h) (Or.inl ⟨by rfl, ?hy2_23⟩) (by assumption) ?rest2_23
  case hy2_23 => (intro w hSw; (try dsimp only at hSw); (try go_split_ands); go_simp; all_goals with_reducible rfl)
  try simp only [Act.put, List.setIfInBounds_toArray, List.set_cons_zero, List.set_cons_succ]
  refine wpAnyH_take (i := 24) (oi := ({ dst := some 129, op := Go.Op.pick (Go.Operand.tmp 124) (Go.Operand.tmp 128) (Go.Operand.const (Go.Value.bool false)), type := 4, pos := "outright.go:48", after := #[{ on := 19, ground := Go.Ground.data }, { on := 23, ground := Go.Ground.data }], guard := none } : Oper)) (v := ?vv2_24) rfl (by kernel_rfl) (by kernel_rfl) (by kernel_rfl) (fun _ _ _ h => h) (Or.inl ⟨by rfl, ?hy2_24⟩) (by assumption) ?rest2_24
  case hy2_24 => (intro w hSw; (try dsimp only at hSw); (try go_split_ands); go_simp; all_goals with_reducible rfl)
  try simp only [Act.put, List.setIfInBounds_toArray, List.set_cons_zero, List.set_cons_succ]
  refine wpAnyH_take (i := 25) (oi := ({ dst := some 130, op := Go.Op.move (Go.Operand.tmp 129), type := 4, pos := "outright.go:48", after := #[{ on := 24, ground := Go.Ground.data }, { on := 19, ground := Go.Ground.chain }], guard := none } : Oper)) (v := ?vv2_25) rfl (by kernel_rfl) (by kernel_rfl) (by kernel_rfl) (fun _ _ _ h => h) (Or.inl ⟨by rfl, ?hy2_25⟩) (by assumption) ?rest2_25
  case hy2_25 => (intro w hSw; (try dsimp only at hSw); (try go_split_ands); go_simp; all_goals with_reducible rfl)
  try simp only [Act.put, List.setIfInBounds_toArray, List.set_cons_zero, List.set_cons_succ]
  refine wpAnyH_ready (rs := [26]) (by kernel_rfl) (by simp) ?_
  refine AllReadyH.cons (o := ({ dst := some 131, op := Go.Op.call { callee := Go.Callee.value (Go.Operand.func 9), args := #[], argTypes := #[] }, type := 4, pos := "outright.go:48", after := #[{ on := 25, ground := Go.Ground.chain }, { on := 25, ground := Go.Ground.guard }], guard := some (25, true) } : Oper)) rfl (fun K hK => ?_) AllReadyH.nil
  go_simp
  (go_at_call 9; refine (awake5_any _ (HG.out.below hHeld)).mono ?_; rintro e w6 ⟨rfl, hb6⟩)
  refine hK.out _ _ ?_ (fun hHeld => ?_)
  · (exact below_more hHeld hb6)
  clear hK K
  try simp only [Act.put, List.setIfInBounds_toArray, List.set_cons_zero, List.set_cons_succ]
  refine wpAnyH_take (i := 27) (oi := ({ dst := some 132, op := Go.Op.pick (Go.Operand.tmp 130) (Go.Operand.tmp 131) (Go.Operand.const (Go.Value.bool false)), type := 4, pos := "outright.go:48", after := #[{ on := 25, ground := Go.Ground.data }, { on := 26, ground := Go.Ground.data }], guard := none } : Oper)) (v := ?vv2_27) rfl (by kernel_rfl) (by kernel_rfl) (by kernel_rfl) (fun _ _ _ h => h) (Or.inl ⟨by rfl, ?hy2_27⟩) (by assumption) ?rest2_27
  case hy2_27 => (intro w hSw; (try dsimp only at hSw); (try go_split_ands); go_simp; all_goals with_reducible rfl)
  try simp only [Act.put, List.setIfInBounds_toArray, List.set_cons_zero, List.set_cons_succ]
  refine wpAnyH_take (i := 28) (oi := ({ dst := some 2, op := Go.Op.assign (Go.Operand.tmp 132), type := 4, pos := "outright.go:48", after := #[{ on := 27, ground := Go.Ground.data }, { on := 26, ground := Go.Ground.chain }, { on := 0, ground := Go.Ground.phase }, { on := 1, ground := Go.Ground.phase }, { on := 2, ground := Go.Ground.phase }, { on := 3, ground := Go.Ground.phase }, { on := 4, ground := Go.Ground.phase }, { on := 5, ground := Go.Ground.phase }, { on := 6, ground := Go.Ground.phase }, { on := 7, ground := Go.Ground.phase }, { on := 8, ground := Go.Ground.phase }, { on := 9, ground := Go.Ground.phase }, { on := 10, ground := Go.Ground.phase }, { on := 11, ground := Go.Ground.phase }, { on := 12, ground := Go.Ground.phase }, { on := 13, ground := Go.Ground.phase }, { on := 14, ground := Go.Ground.phase }, { on := 15, ground := Go.Ground.phase }, { on := 16, ground := Go.Ground.phase }, { on := 17, ground := Go.Ground.phase }, { on := 18, ground := Go.Ground.phase }, { on := 19, ground := Go.Ground.phase }, { on := 20, ground := Go.Ground.phase }, { on := 21, ground := Go.Ground.phase }, { on := 22, ground := Go.Ground.phase }, { on := 23, ground := Go.Ground.phase }, { on := 24, ground := Go.Ground.phase }, { on := 25, ground := Go.Ground.phase }, { on := 26, ground := Go.Ground.phase }, { on := 27, ground := Go.Ground.phase }], guard := none } : Oper)) (v := ?vv2_28) rfl (by kernel_rfl) (by kernel_rfl) (by kernel_rfl) (fun _ _ _ h => h) (Or.inl ⟨by rfl, ?hy2_28⟩) (by assumption) ?rest2_28
  case hy2_28 => (intro w hSw; (try dsimp only at hSw); (try go_split_ands); go_simp; all_goals with_reducible rfl)
  try simp only [Act.put, List.setIfInBounds_toArray, List.set_cons_zero, List.set_cons_succ]
  refine wpAnyH_done (by kernel_rfl) ?_ _
  clear x1 x2 x3 x4 x5 x6 x7 x8 x9
  go_wp2_with fail
  go_ret
  exact ⟨rfl, hHeld⟩
set_option maxHeartbeats 4000000 in
theorem walk_err (w : World) (HG : Hid (Glo w)) (s : List UInt8) (hsl : s.length ≤ 9223372036854775807) (HGB : Hid (decide (20000 < s.length) = false)) (hl2 : s.length ≤ 20000) (hcl : (cutR s).1.length ≤ 90000) (er : Int) (he2 : er = 2 ∨ er = 4) (HD : Hid (decR s = (zPk, [], 0, er))) :
    Calls Tryz.prog 4 #[.string ⟨s.toArray⟩] w fun e w' => e = .returned (.bool true) ∧ Below w.heap.size w w' := by
  rcases he2 with rfl | rfl
  all_goals
    go_enter Tryz.func4, Tryz.ntmps4
    go_wp2_with fail
    refine (sgreat_any s false _ hsl HGB.out).mono ?_
    rintro e w2 ⟨rfl, rfl⟩
    go_wp2_with fail
    refine (decode_eq s zPk [] 0 _ _ HG.out (by omega) hcl HD.out).mono ?_
    rintro e w4 ⟨B, d, rfl, hb4, _, _, _⟩
    have hK := (Kp.nil w4).new (PkC zPk B 0 d) 27
    have hb5 := below_more hb4 hK.below
    clear hK hb4
    go_wp2_with fail
    refine (fails_yes s _ _ (HG.out.below hb5) (by omega) hcl HD.out).mono ?_
    rintro e w6 ⟨rfl, hb6⟩
    have hb7 := below_more hb5 hb6
    clear hb6 hb5
    go_wp2_with fail
    refine (awake5_any _ (HG.out.below hb7)).mono ?_
    rintro e w8 ⟨rfl, hb8⟩
    go_wp2_with fail
    go_ret
    exact ⟨rfl, below_more hb7 hb8⟩
theorem walk (w : World) (hG : Glo w) (s : List UInt8) (hsl : s.length ≤ 9223372036854775807) :
    Calls Tryz.prog 4 #[.string ⟨s.toArray⟩] w fun e w' => e = .returned (.bool true) ∧ Below w.heap.size w w' := by
  cases hg : decide (20000 < s.length) with
  | true => exact walk_great w hG s hsl hg
  | false =>
    have hl2 : s.length ≤ 20000 := by simpa using hg
    have hcl : (cutR s).1.length ≤ 90000 := Nat.le_trans (cut_len s) (by omega)
    obtain ⟨p, xs, n, er, hd⟩ : ∃ p xs n er, decR s = (p, xs, n, er) := ⟨_, _, _, _, rfl⟩
    by_cases he : er = 0
    · subst he
      rcases dec_ok hd hcl with ⟨v, b, r, hs, rfl, rfl, v0, v1, v4, hty, hn2, hns⟩ | ⟨b, r, v, u, hW⟩
      · exact walk_level w hG s hsl hg hl2 hcl v n b r hs v0 v1 v4 hty hn2 hns hd
      · cases hc1 : (p.ty == 1) with
        | false => exact walk_was_false w hG s hsl hg hl2 hcl p xs n v u b r hW hc1 hd
        | true => exact walk_was_true w hG s hsl hg hl2 hcl p xs n v u b r hW hc1 hd
    · obtain ⟨he2, rfl, rfl, rfl⟩ := dec_er hd he
      exact walk_err w hG s hsl hg hl2 hcl er he2 hd
end lawReadAgain
end Go.Proofs.YtangnkhehajikaaGreatDoor
