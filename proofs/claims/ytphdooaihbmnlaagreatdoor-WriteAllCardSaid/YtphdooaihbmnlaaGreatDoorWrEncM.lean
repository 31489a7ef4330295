/-
  WrRef, WrRest, WrEnc in one. (By tools/merge.py.)
-/
import Derived.Test.YtphdooaihbmnlaaGreatDoorWrMath
import Derived.Test.YtphdooaihbmnlaaGreatDoorTextRefs
import Derived.Test.YtphdooaihbmnlaaGreatDoorPkRh
import Derived.Test.YtphdooaihbmnlaaGreatDoorWrInj
import Derived.Test.YtphdooaihbmnlaaGreatDoorWrD
import Derived.Test.YtphdooaihbmnlaaGreatDoorPkRg
import Derived.Deep.Cut
import Derived.BigQuiet
set_option linter.unusedSimpArgs false
set_option linter.unusedVariables false
/-
  The document's own encodings: words, fields, the first byte.
-/
namespace Go.Proofs.YtphdooaihbmnlaaGreatDoor
open Go.RowKit
set_option maxRecDepth 100000
theorem refOne_any (x : Int) (w : World) (h0 : 0 ≤ x) (h1 : x < 256) :
    Calls Tryz.prog 19 #[.int .i64 x] w fun e w' => e = .returned (.string ⟨[toB x].toArray⟩) ∧ Below w.heap.size w w' := by
  have hcv := fun W => conv_new1 (P := Tryz.prog) (S := 9) Tryz.underlying50 Tryz.underlying5 Tryz.underlying9 W x h0 h1
  have hcw := fun W => conv_new1d (P := Tryz.prog) (S := 9) Tryz.underlying50 Tryz.underlying5 Tryz.underlying9 W x h0 h1
  have hwr : IntKind.u8.wrap x = x := IntWalk.u8_in _ (by omega)
  go_enter Tryz.func19, Tryz.ntmps19
  go_wp2
  go_ret
  exact ⟨rfl, (Below.refl _ _).alloc (Nat.le_refl _) _⟩
theorem refYes_any (b : Bool) (n : Int) (w : World) :
    Calls Tryz.prog 35 #[.bool b, .int .i64 n] w fun e w' => e = .returned (.int .i64 (yesI b n)) ∧ w = w' := by
  go_enter Tryz.func35, Tryz.ntmps35
  cases b <;> (go_wp2; go_ret; exact ⟨rfl, rfl⟩)
theorem words_oneW (n : Int) (h0 : 0 ≤ n) (h1 : n ≤ 65535) : wordsR [n] = (wordL n, 0) := words_one n h0 h1
theorem refWord_any (n : Int) (w : World) (h0 : 0 ≤ n) (h1 : n ≤ 65535) :
    Calls Tryz.prog 37 #[.int .u16 n] w fun e w' => e = .returned (.string ⟨(wordL n).toArray⟩) ∧ Below w.heap.size w w' := by
  have hb : Below w.heap.size w w := Below.refl _ _
  have hwr : IntKind.i64.wrap n = n := IntWalk.i64_in _ (by omega)
  go_enter Tryz.func37, Tryz.ntmps37
  go_wp2_with fail
  refine (refWords_eq _ 1 _ [n] _ 0 _ (ints_new1 _ _ _) (by omega) (words_oneW _ h0 h1)).mono ?_
  rintro e w1 ⟨rfl, hb1⟩
  replace hb := below_more (below_alloc hb _) hb1
  clear hb1
  go_wp2_with fail
  go_ret
  exact ⟨rfl, hb⟩
theorem refData_any (l : List UInt8) (w : World) (h : l.length ≤ 65535) :
    Calls Tryz.prog 36 #[.string ⟨l.toArray⟩] w fun e w' => e = .returned (.string ⟨(fieldL l).toArray⟩) ∧ Below w.heap.size w w' := by
  have hb : Below w.heap.size w w := Below.refl _ _
  go_enter Tryz.func36, Tryz.ntmps36
  go_wp2_with fail
  refine (refPutData_yes l _ h).mono ?_
  rintro e w1 ⟨rfl, hb1⟩
  replace hb := below_more hb hb1
  clear hb1
  go_wp2_with fail
  go_ret
  exact ⟨rfl, hb⟩
end Go.Proofs.YtphdooaihbmnlaaGreatDoor

/-
  The document's own encodings: the rest, the first byte, a packet, packets. (By tools/genwrr.py.)
-/
namespace Go.Proofs.YtphdooaihbmnlaaGreatDoor
open Go.RowKit
set_option maxRecDepth 100000
theorem fld_len (k : Nat) : (fldF k).length ≤ 100 := by
  unfold fldF
  by_cases h : k < 15
  · have : k = 0 ∨ k = 1 ∨ k = 2 ∨ k = 3 ∨ k = 4 ∨ k = 5 ∨ k = 6 ∨ k = 7 ∨ k = 8 ∨ k = 9 ∨ k = 10 ∨ k = 11 ∨ k = 12 ∨ k = 13 ∨ k = 14 := by omega
    rcases this with rfl | rfl | rfl | rfl | rfl | rfl | rfl | rfl | rfl | rfl | rfl | rfl | rfl | rfl | rfl <;> decide
  · rw [List.getElem?_eq_none (by show 15 ≤ k; omega)]
    decide
theorem refRightW_eq (p : Pk) (A : Option Addr) (n c : Nat) (xs : List (List UInt8 × Int)) (r : Bool) (w : World) (hs : Subs w A n xs) (hf : Fit p xs) (h : decide (0 ≤ restN p xs) = r) :
    Calls Tryz.prog 16 #[.agg (PkC p A n c)] w fun e w' => e = .returned (.bool r) ∧ Below w.heap.size w w' := by
  obtain ⟨k, hk⟩ : ∃ k : Nat, p.ty = (k : Int) := ⟨p.ty.toNat, by have := hf.ty; omega⟩
  refine refRight_eq p A n c k (fldF k) xs r w hs hf hk (by have := hf.ty; omega) rfl (fld_len k) ?_
  rw [right_same p xs hf k hk, h]
section
variable {w : World}
set_option maxHeartbeats 4000000 in
theorem refRest_4 (p : Pk) (A : Option Addr) (n c : Nat) (xs : List (List UInt8 × Int)) (hs : Subs w A n xs) (hf : Fit p xs) (ho : Ok p xs) (e : p.ty = 4) :
    Calls Tryz.prog 17 #[.agg (PkC p A n c)] w fun e w' => e = .returned (.string ⟨(bodyL p xs).toArray⟩) ∧ Below w.heap.size w w' := by
  have HX : Hid (bodyL p xs = wordL p.id) := by show _ = _; unfold bodyL; rw [e]; simp
  have hK0 := (Kp.nil w).new (PkC p A n c) 27
  have hid := hf.id
  have hld := load_le hf.tot
  have t1 : (p.ty == 1) = false := by rw [e]; rfl
  have t2 : (p.ty == 2) = false := by rw [e]; rfl
  have t3 : (p.ty == 3) = false := by rw [e]; rfl
  have t8 : (p.ty == 8) = false := by rw [e]; rfl
  have t9 : (p.ty == 9) = false := by rw [e]; rfl
  have t10 : (p.ty == 10) = false := by rw [e]; rfl
  have t12 : (p.ty == 12) = false := by rw [e]; rfl
  have t13 : (p.ty == 13) = false := by rw [e]; rfl
  have t14 : (p.ty == 14) = false := by rw [e]; rfl
  clear e hs hf ho
  go_enter Tryz.func17, Tryz.ntmps17
  go_wp2_with fail
  refine (refWord_any p.id _ hid.1 hid.2).mono ?_
  rintro e w6 ⟨rfl, hb6⟩
  have hK1 := hK0.more hb6
  clear hb6
  go_wp2_with fail
  go_ret
  exact ⟨by rw [HX.out]; rfl, hK1.below⟩
set_option maxHeartbeats 4000000 in
theorem refRest_5 (p : Pk) (A : Option Addr) (n c : Nat) (xs : List (List UInt8 × Int)) (hs : Subs w A n xs) (hf : Fit p xs) (ho : Ok p xs) (e : p.ty = 5) :
    Calls Tryz.prog 17 #[.agg (PkC p A n c)] w fun e w' => e = .returned (.string ⟨(bodyL p xs).toArray⟩) ∧ Below w.heap.size w w' := by
  have HX : Hid (bodyL p xs = wordL p.id) := by show _ = _; unfold bodyL; rw [e]; simp
  have hK0 := (Kp.nil w).new (PkC p A n c) 27
  have hid := hf.id
  have hld := load_le hf.tot
  have t1 : (p.ty == 1) = false := by rw [e]; rfl
  have t2 : (p.ty == 2) = false := by rw [e]; rfl
  have t3 : (p.ty == 3) = false := by rw [e]; rfl
  have t8 : (p.ty == 8) = false := by rw [e]; rfl
  have t9 : (p.ty == 9) = false := by rw [e]; rfl
  have t10 : (p.ty == 10) = false := by rw [e]; rfl
  have t12 : (p.ty == 12) = false := by rw [e]; rfl
  have t13 : (p.ty == 13) = false := by rw [e]; rfl
  have t14 : (p.ty == 14) = false := by rw [e]; rfl
  clear e hs hf ho
  go_enter Tryz.func17, Tryz.ntmps17
  go_wp2_with fail
  refine (refWord_any p.id _ hid.1 hid.2).mono ?_
  rintro e w6 ⟨rfl, hb6⟩
  have hK1 := hK0.more hb6
  clear hb6
  go_wp2_with fail
  go_ret
  exact ⟨by rw [HX.out]; rfl, hK1.below⟩
set_option maxHeartbeats 4000000 in
theorem refRest_6 (p : Pk) (A : Option Addr) (n c : Nat) (xs : List (List UInt8 × Int)) (hs : Subs w A n xs) (hf : Fit p xs) (ho : Ok p xs) (e : p.ty = 6) :
    Calls Tryz.prog 17 #[.agg (PkC p A n c)] w fun e w' => e = .returned (.string ⟨(bodyL p xs).toArray⟩) ∧ Below w.heap.size w w' := by
  have HX : Hid (bodyL p xs = wordL p.id) := by show _ = _; unfold bodyL; rw [e]; simp
  have hK0 := (Kp.nil w).new (PkC p A n c) 27
  have hid := hf.id
  have hld := load_le hf.tot
  have t1 : (p.ty == 1) = false := by rw [e]; rfl
  have t2 : (p.ty == 2) = false := by rw [e]; rfl
  have t3 : (p.ty == 3) = false := by rw [e]; rfl
  have t8 : (p.ty == 8) = false := by rw [e]; rfl
  have t9 : (p.ty == 9) = false := by rw [e]; rfl
  have t10 : (p.ty == 10) = false := by rw [e]; rfl
  have t12 : (p.ty == 12) = false := by rw [e]; rfl
  have t13 : (p.ty == 13) = false := by rw [e]; rfl
  have t14 : (p.ty == 14) = false := by rw [e]; rfl
  clear e hs hf ho
  go_enter Tryz.func17, Tryz.ntmps17
  go_wp2_with fail
  refine (refWord_any p.id _ hid.1 hid.2).mono ?_
  rintro e w6 ⟨rfl, hb6⟩
  have hK1 := hK0.more hb6
  clear hb6
  go_wp2_with fail
  go_ret
  exact ⟨by rw [HX.out]; rfl, hK1.below⟩
set_option maxHeartbeats 4000000 in
theorem refRest_7 (p : Pk) (A : Option Addr) (n c : Nat) (xs : List (List UInt8 × Int)) (hs : Subs w A n xs) (hf : Fit p xs) (ho : Ok p xs) (e : p.ty = 7) :
    Calls Tryz.prog 17 #[.agg (PkC p A n c)] w fun e w' => e = .returned (.string ⟨(bodyL p xs).toArray⟩) ∧ Below w.heap.size w w' := by
  have HX : Hid (bodyL p xs = wordL p.id) := by show _ = _; unfold bodyL; rw [e]; simp
  have hK0 := (Kp.nil w).new (PkC p A n c) 27
  have hid := hf.id
  have hld := load_le hf.tot
  have t1 : (p.ty == 1) = false := by rw [e]; rfl
  have t2 : (p.ty == 2) = false := by rw [e]; rfl
  have t3 : (p.ty == 3) = false := by rw [e]; rfl
  have t8 : (p.ty == 8) = false := by rw [e]; rfl
  have t9 : (p.ty == 9) = false := by rw [e]; rfl
  have t10 : (p.ty == 10) = false := by rw [e]; rfl
  have t12 : (p.ty == 12) = false := by rw [e]; rfl
  have t13 : (p.ty == 13) = false := by rw [e]; rfl
  have t14 : (p.ty == 14) = false := by rw [e]; rfl
  clear e hs hf ho
  go_enter Tryz.func17, Tryz.ntmps17
  go_wp2_with fail
  refine (refWord_any p.id _ hid.1 hid.2).mono ?_
  rintro e w6 ⟨rfl, hb6⟩
  have hK1 := hK0.more hb6
  clear hb6
  go_wp2_with fail
  go_ret
  exact ⟨by rw [HX.out]; rfl, hK1.below⟩
set_option maxHeartbeats 4000000 in
theorem refRest_11 (p : Pk) (A : Option Addr) (n c : Nat) (xs : List (List UInt8 × Int)) (hs : Subs w A n xs) (hf : Fit p xs) (ho : Ok p xs) (e : p.ty = 11) :
    Calls Tryz.prog 17 #[.agg (PkC p A n c)] w fun e w' => e = .returned (.string ⟨(bodyL p xs).toArray⟩) ∧ Below w.heap.size w w' := by
  have HX : Hid (bodyL p xs = wordL p.id) := by show _ = _; unfold bodyL; rw [e]; simp
  have hK0 := (Kp.nil w).new (PkC p A n c) 27
  have hid := hf.id
  have hld := load_le hf.tot
  have t1 : (p.ty == 1) = false := by rw [e]; rfl
  have t2 : (p.ty == 2) = false := by rw [e]; rfl
  have t3 : (p.ty == 3) = false := by rw [e]; rfl
  have t8 : (p.ty == 8) = false := by rw [e]; rfl
  have t9 : (p.ty == 9) = false := by rw [e]; rfl
  have t10 : (p.ty == 10) = false := by rw [e]; rfl
  have t12 : (p.ty == 12) = false := by rw [e]; rfl
  have t13 : (p.ty == 13) = false := by rw [e]; rfl
  have t14 : (p.ty == 14) = false := by rw [e]; rfl
  clear e hs hf ho
  go_enter Tryz.func17, Tryz.ntmps17
  go_wp2_with fail
  refine (refWord_any p.id _ hid.1 hid.2).mono ?_
  rintro e w6 ⟨rfl, hb6⟩
  have hK1 := hK0.more hb6
  clear hb6
  go_wp2_with fail
  go_ret
  exact ⟨by rw [HX.out]; rfl, hK1.below⟩
set_option maxHeartbeats 4000000 in
theorem refRest_12 (p : Pk) (A : Option Addr) (n c : Nat) (xs : List (List UInt8 × Int)) (hs : Subs w A n xs) (hf : Fit p xs) (ho : Ok p xs) (e : p.ty = 12) :
    Calls Tryz.prog 17 #[.agg (PkC p A n c)] w fun e w' => e = .returned (.string ⟨(bodyL p xs).toArray⟩) ∧ Below w.heap.size w w' := by
  have HX : Hid (bodyL p xs = []) := by show _ = _; unfold bodyL; rw [e]; simp
  have hK0 := (Kp.nil w).new (PkC p A n c) 27
  have hid := hf.id
  have hld := load_le hf.tot
  have t1 : (p.ty == 1) = false := by rw [e]; rfl
  have t2 : (p.ty == 2) = false := by rw [e]; rfl
  have t3 : (p.ty == 3) = false := by rw [e]; rfl
  have t8 : (p.ty == 8) = false := by rw [e]; rfl
  have t9 : (p.ty == 9) = false := by rw [e]; rfl
  have t10 : (p.ty == 10) = false := by rw [e]; rfl
  have t12 : (p.ty == 12) = true := by rw [e]; rfl
  have t13 : (p.ty == 13) = false := by rw [e]; rfl
  have t14 : (p.ty == 14) = false := by rw [e]; rfl
  clear e hs hf ho
  go_enter Tryz.func17, Tryz.ntmps17
  go_wp2_with fail
  go_ret
  exact ⟨by rw [HX.out]; rfl, hK0.below⟩
set_option maxHeartbeats 4000000 in
theorem refRest_13 (p : Pk) (A : Option Addr) (n c : Nat) (xs : List (List UInt8 × Int)) (hs : Subs w A n xs) (hf : Fit p xs) (ho : Ok p xs) (e : p.ty = 13) :
    Calls Tryz.prog 17 #[.agg (PkC p A n c)] w fun e w' => e = .returned (.string ⟨(bodyL p xs).toArray⟩) ∧ Below w.heap.size w w' := by
  have HX : Hid (bodyL p xs = []) := by show _ = _; unfold bodyL; rw [e]; simp
  have hK0 := (Kp.nil w).new (PkC p A n c) 27
  have hid := hf.id
  have hld := load_le hf.tot
  have t1 : (p.ty == 1) = false := by rw [e]; rfl
  have t2 : (p.ty == 2) = false := by rw [e]; rfl
  have t3 : (p.ty == 3) = false := by rw [e]; rfl
  have t8 : (p.ty == 8) = false := by rw [e]; rfl
  have t9 : (p.ty == 9) = false := by rw [e]; rfl
  have t10 : (p.ty == 10) = false := by rw [e]; rfl
  have t12 : (p.ty == 12) = false := by rw [e]; rfl
  have t13 : (p.ty == 13) = true := by rw [e]; rfl
  have t14 : (p.ty == 14) = false := by rw [e]; rfl
  clear e hs hf ho
  go_enter Tryz.func17, Tryz.ntmps17
  go_wp2_with fail
  go_ret
  exact ⟨by rw [HX.out]; rfl, hK0.below⟩
set_option maxHeartbeats 4000000 in
theorem refRest_14 (p : Pk) (A : Option Addr) (n c : Nat) (xs : List (List UInt8 × Int)) (hs : Subs w A n xs) (hf : Fit p xs) (ho : Ok p xs) (e : p.ty = 14) :
    Calls Tryz.prog 17 #[.agg (PkC p A n c)] w fun e w' => e = .returned (.string ⟨(bodyL p xs).toArray⟩) ∧ Below w.heap.size w w' := by
  have HX : Hid (bodyL p xs = []) := by show _ = _; unfold bodyL; rw [e]; simp
  have hK0 := (Kp.nil w).new (PkC p A n c) 27
  have hid := hf.id
  have hld := load_le hf.tot
  have t1 : (p.ty == 1) = false := by rw [e]; rfl
  have t2 : (p.ty == 2) = false := by rw [e]; rfl
  have t3 : (p.ty == 3) = false := by rw [e]; rfl
  have t8 : (p.ty == 8) = false := by rw [e]; rfl
  have t9 : (p.ty == 9) = false := by rw [e]; rfl
  have t10 : (p.ty == 10) = false := by rw [e]; rfl
  have t12 : (p.ty == 12) = false := by rw [e]; rfl
  have t13 : (p.ty == 13) = false := by rw [e]; rfl
  have t14 : (p.ty == 14) = true := by rw [e]; rfl
  clear e hs hf ho
  go_enter Tryz.func17, Tryz.ntmps17
  go_wp2_with fail
  go_ret
  exact ⟨by rw [HX.out]; rfl, hK0.below⟩
set_option maxHeartbeats 4000000 in
theorem refRest_2 (p : Pk) (A : Option Addr) (n c : Nat) (xs : List (List UInt8 × Int)) (hs : Subs w A n xs) (hf : Fit p xs) (ho : Ok p xs) (e : p.ty = 2) :
    Calls Tryz.prog 17 #[.agg (PkC p A n c)] w fun e w' => e = .returned (.string ⟨(bodyL p xs).toArray⟩) ∧ Below w.heap.size w w' := by
  have HX : Hid (bodyL p xs = [toB (yesI p.present 1), toB p.code]) := by show _ = _; unfold bodyL; rw [e]; simp
  have hK0 := (Kp.nil w).new (PkC p A n c) 27
  have hid := hf.id
  have hld := load_le hf.tot
  have t1 : (p.ty == 1) = false := by rw [e]; rfl
  have t2 : (p.ty == 2) = true := by rw [e]; rfl
  have t3 : (p.ty == 3) = false := by rw [e]; rfl
  have t8 : (p.ty == 8) = false := by rw [e]; rfl
  have t9 : (p.ty == 9) = false := by rw [e]; rfl
  have t10 : (p.ty == 10) = false := by rw [e]; rfl
  have t12 : (p.ty == 12) = false := by rw [e]; rfl
  have t13 : (p.ty == 13) = false := by rw [e]; rfl
  have t14 : (p.ty == 14) = false := by rw [e]; rfl
  have hcd := hf.code
  have hpr := yes_bd p.present 1 (by omega)
  have w1 : IntKind.i64.wrap p.code = p.code := IntWalk.i64_in _ (by omega)
  have had := fun W => add_str (P := Tryz.prog) W [toB (yesI p.present 1)] [toB p.code] (by simp)
  clear e hs hf ho
  go_enter Tryz.func17, Tryz.ntmps17
  go_upto_region 14 with fail
  refine wp_region_held_drew (S := Kp w [(w.heap.size, PkC p A n c, 27)]) (by kernel_rfl) hK0.drew (fun hHeld => ?_)
  clear hK0
  generalize hwd : World.drew _ = wd at hHeld ⊢
  clear hwd
  refine wpAnyH_take (i := 0) (oi := ({ dst := some 82, op := Go.Op.fieldAddr 27 (Go.Operand.tmp 1) 17, type := 0, pos := "ref.go:59", after := #[], guard := none } : Oper)) (v := ?vw1) rfl (by kernel_rfl) (by kernel_rfl) (by kernel_rfl) (fun _ _ _ h => h) (Or.inl ⟨by rfl, ?hz1⟩) (by assumption) ?rs1
  case hz1 => (intro wz hSw; (try have hq1 := hSw.tail.cell); (try have hq2 := hSw.tail.tail.cell); (try have hq3 := hSw.cell); (try have hq4 := hSw.tail.row); (try have hq5 := hSw.tail.tail.row); (try have hq6 := hSw.row); (try have hq7 := hSw.tail.tail.tail.row); (try clear hSw); go_simp; all_goals with_reducible rfl)
  try simp only [Act.put, List.setIfInBounds_toArray, List.set_cons_zero, List.set_cons_succ]
  refine wpAnyH_take (i := 1) (oi := ({ dst := some 83, op := Go.Op.load 4 (Go.Operand.tmp 82), type := 4, pos := "ref.go:59", after := #[{ on := 0, ground := Go.Ground.data }], guard := none } : Oper)) (v := ?vw2) rfl (by kernel_rfl) (by kernel_rfl) (by kernel_rfl) (fun _ _ _ h => h) (Or.inl ⟨by rfl, ?hz2⟩) (by assumption) ?rs2
  case hz2 => (intro wz hSw; (try have hq1 := hSw.tail.cell); (try have hq2 := hSw.tail.tail.cell); (try have hq3 := hSw.cell); (try have hq4 := hSw.tail.row); (try have hq5 := hSw.tail.tail.row); (try have hq6 := hSw.row); (try have hq7 := hSw.tail.tail.tail.row); (try clear hSw); go_simp; all_goals with_reducible rfl)
  try simp only [Act.put, List.setIfInBounds_toArray, List.set_cons_zero, List.set_cons_succ]
  refine wpAnyH_take (i := 4) (oi := ({ dst := some 86, op := Go.Op.fieldAddr 27 (Go.Operand.tmp 1) 18, type := 0, pos := "ref.go:59", after := #[], guard := none } : Oper)) (v := ?vw3) rfl (by kernel_rfl) (by kernel_rfl) (by kernel_rfl) (fun _ _ _ h => h) (Or.inl ⟨by rfl, ?hz3⟩) (by assumption) ?rs3
  case hz3 => (intro wz hSw; (try have hq1 := hSw.tail.cell); (try have hq2 := hSw.tail.tail.cell); (try have hq3 := hSw.cell); (try have hq4 := hSw.tail.row); (try have hq5 := hSw.tail.tail.row); (try have hq6 := hSw.row); (try have hq7 := hSw.tail.tail.tail.row); (try clear hSw); go_simp; all_goals with_reducible rfl)
  try simp only [Act.put, List.setIfInBounds_toArray, List.set_cons_zero, List.set_cons_succ]
  refine wpAnyH_take (i := 5) (oi := ({ dst := some 87, op := Go.Op.load 5 (Go.Operand.tmp 86), type := 5, pos := "ref.go:59", after := #[{ on := 4, ground := Go.Ground.data }], guard := none } : Oper)) (v := ?vw4) rfl (by kernel_rfl) (by kernel_rfl) (by kernel_rfl) (fun _ _ _ h => h) (Or.inl ⟨by rfl, ?hz4⟩) (by assumption) ?rs4
  case hz4 => (intro wz hSw; (try have hq1 := hSw.tail.cell); (try have hq2 := hSw.tail.tail.cell); (try have hq3 := hSw.cell); (try have hq4 := hSw.tail.row); (try have hq5 := hSw.tail.tail.row); (try have hq6 := hSw.row); (try have hq7 := hSw.tail.tail.tail.row); (try clear hSw); go_simp; all_goals with_reducible rfl)
  try simp only [Act.put, List.setIfInBounds_toArray, List.set_cons_zero, List.set_cons_succ]
  refine wpAnyH_take (i := 6) (oi := ({ dst := some 88, op := Go.Op.convert 5 3 (Go.Operand.tmp 87), type := 3, pos := "ref.go:59", after := #[{ on := 5, ground := Go.Ground.data }], guard := none } : Oper)) (v := ?vw5) rfl (by kernel_rfl) (by kernel_rfl) (by kernel_rfl) (fun _ _ _ h => h) (Or.inl ⟨by rfl, ?hz5⟩) (by assumption) ?rs5
  case hz5 => (intro wz hSw; (try have hq1 := hSw.tail.cell); (try have hq2 := hSw.tail.tail.cell); (try have hq3 := hSw.cell); (try have hq4 := hSw.tail.row); (try have hq5 := hSw.tail.tail.row); (try have hq6 := hSw.row); (try have hq7 := hSw.tail.tail.tail.row); (try clear hSw); go_simp; all_goals with_reducible rfl)
  try simp only [Act.put, List.setIfInBounds_toArray, List.set_cons_zero, List.set_cons_succ]
  refine wpAnyH_ready (rs := [2]) (by kernel_rfl) (by simp) ?_
  refine (AllReadyH.cons (o := ({ dst := some 84, op := Go.Op.call { callee := Go.Callee.value (Go.Operand.func 35), args := #[Go.Operand.tmp 83, Go.Operand.const (Go.Value.int Go.IntKind.i64 1)], argTypes := #[4, 3] }, type := 3, pos := "ref.go:59", after := #[{ on := 1, ground := Go.Ground.data }], guard := none } : Oper)) rfl (fun K hK => ?_) AllReadyH.nil)
  go_simp
  (go_at_call 35; refine (refYes_any _ _ _).mono ?_; rintro e w6 ⟨rfl, rfl⟩)
  refine hK.out _ _ (by first | exact hHeld.more hb6 | exact hHeld | exact ⟨_, hK9⟩ | exact below_more hHeld hb6) (fun hHeld1 => ?_)
  clear hHeld; have hHeld := hHeld1; clear hHeld1 hK K
  try simp only [Act.put, List.setIfInBounds_toArray, List.set_cons_zero, List.set_cons_succ]
  refine wpAnyH_ready (rs := [3]) (by kernel_rfl) (by simp) ?_
  refine (AllReadyH.cons (o := ({ dst := some 85, op := Go.Op.call { callee := Go.Callee.value (Go.Operand.func 19), args := #[Go.Operand.tmp 84], argTypes := #[3] }, type := 9, pos := "ref.go:59", after := #[{ on := 2, ground := Go.Ground.data }, { on := 2, ground := Go.Ground.chain }], guard := none } : Oper)) rfl (fun K hK => ?_) AllReadyH.nil)
  go_simp
  (go_at_call 19; refine (refOne_any _ _ hpr.1 (by omega)).mono ?_; rintro e w6 ⟨rfl, hb6⟩)
  refine hK.out _ _ (by first | exact hHeld.more hb6 | exact hHeld | exact ⟨_, hK9⟩ | exact below_more hHeld hb6) (fun hHeld1 => ?_)
  clear hHeld; have hHeld := hHeld1; clear hHeld1 hK K
  try simp only [Act.put, List.setIfInBounds_toArray, List.set_cons_zero, List.set_cons_succ]
  refine wpAnyH_ready (rs := [7]) (by kernel_rfl) (by simp) ?_
  refine (AllReadyH.cons (o := ({ dst := some 89, op := Go.Op.call { callee := Go.Callee.value (Go.Operand.func 19), args := #[Go.Operand.tmp 88], argTypes := #[3] }, type := 9, pos := "ref.go:59", after := #[{ on := 6, ground := Go.Ground.data }, { on := 3, ground := Go.Ground.chain }], guard := none } : Oper)) rfl (fun K hK => ?_) AllReadyH.nil)
  go_simp
  (go_at_call 19; refine (refOne_any _ _ hcd.1 (by omega)).mono ?_; rintro e w6 ⟨rfl, hb6⟩)
  refine hK.out _ _ (by first | exact hHeld.more hb6 | exact hHeld | exact ⟨_, hK9⟩ | exact below_more hHeld hb6) (fun hHeld1 => ?_)
  clear hHeld; have hHeld := hHeld1; clear hHeld1 hK K
  try simp only [Act.put, List.setIfInBounds_toArray, List.set_cons_zero, List.set_cons_succ]
  refine wpAnyH_take (i := 8) (oi := ({ dst := some 90, op := Go.Op.binOp Go.BinOp.add 9 (Go.Operand.tmp 85) (Go.Operand.tmp 89) 9, type := 9, pos := "ref.go:59", after := #[{ on := 3, ground := Go.Ground.data }, { on := 7, ground := Go.Ground.data }], guard := none } : Oper)) (v := ?vw6) rfl (by kernel_rfl) (by kernel_rfl) (by kernel_rfl) (fun _ _ _ h => h) (Or.inl ⟨by rfl, ?hz6⟩) (by assumption) ?rs6
  case hz6 => (intro wz hSw; (try have hq1 := hSw.tail.cell); (try have hq2 := hSw.tail.tail.cell); (try have hq3 := hSw.cell); (try have hq4 := hSw.tail.row); (try have hq5 := hSw.tail.tail.row); (try have hq6 := hSw.row); (try have hq7 := hSw.tail.tail.tail.row); (try clear hSw); go_simp; all_goals with_reducible rfl)
  try simp only [Act.put, List.setIfInBounds_toArray, List.set_cons_zero, List.set_cons_succ]
  refine wpAnyH_take (i := 9) (oi := ({ dst := some 3, op := Go.Op.assign (Go.Operand.tmp 90), type := 9, pos := "ref.go:59", after := #[{ on := 8, ground := Go.Ground.data }, { on := 7, ground := Go.Ground.chain }, { on := 0, ground := Go.Ground.phase }, { on := 1, ground := Go.Ground.phase }, { on := 2, ground := Go.Ground.phase }, { on := 3, ground := Go.Ground.phase }, { on := 4, ground := Go.Ground.phase }, { on := 5, ground := Go.Ground.phase }, { on := 6, ground := Go.Ground.phase }, { on := 7, ground := Go.Ground.phase }, { on := 8, ground := Go.Ground.phase }], guard := none } : Oper)) (v := ?vw7) rfl (by kernel_rfl) (by kernel_rfl) (by kernel_rfl) (fun _ _ _ h => h) (Or.inl ⟨by rfl, ?hz7⟩) (by assumption) ?rs7
  case hz7 => (intro wz hSw; (try have hq1 := hSw.tail.cell); (try have hq2 := hSw.tail.tail.cell); (try have hq3 := hSw.cell); (try have hq4 := hSw.tail.row); (try have hq5 := hSw.tail.tail.row); (try have hq6 := hSw.row); (try have hq7 := hSw.tail.tail.tail.row); (try clear hSw); go_simp; all_goals with_reducible rfl)
  try simp only [Act.put, List.setIfInBounds_toArray, List.set_cons_zero, List.set_cons_succ]
  refine wpAnyH_done (by kernel_rfl) ?_ _
  go_wp2_with fail
  go_ret
  exact ⟨by rw [HX.out]; rfl, hHeld.below⟩
set_option maxHeartbeats 4000000 in
theorem refRest_3 (p : Pk) (A : Option Addr) (n c : Nat) (xs : List (List UInt8 × Int)) (hs : Subs w A n xs) (hf : Fit p xs) (ho : Ok p xs) (e : p.ty = 3) :
    Calls Tryz.prog 17 #[.agg (PkC p A n c)] w fun e w' => e = .returned (.string ⟨(bodyL p xs).toArray⟩) ∧ Below w.heap.size w w' := by
  have HX : Hid (bodyL p xs = pubX p) := by show _ = _; unfold bodyL; rw [e]; simp
  have hK0 := (Kp.nil w).new (PkC p A n c) 27
  have hid := hf.id
  have hld := load_le hf.tot
  have t1 : (p.ty == 1) = false := by rw [e]; rfl
  have t2 : (p.ty == 2) = false := by rw [e]; rfl
  have t3 : (p.ty == 3) = true := by rw [e]; rfl
  have t8 : (p.ty == 8) = false := by rw [e]; rfl
  have t9 : (p.ty == 9) = false := by rw [e]; rfl
  have t10 : (p.ty == 10) = false := by rw [e]; rfl
  have t12 : (p.ty == 12) = false := by rw [e]; rfl
  have t13 : (p.ty == 13) = false := by rw [e]; rfl
  have t14 : (p.ty == 14) = false := by rw [e]; rfl
  have hv := nm_val (pub_qos ho e).2
  have l1 := val_len hv
  have hq0 := hf.qos.1
  clear e hs hf ho
  go_enter Tryz.func17, Tryz.ntmps17
  by_cases hq : 0 < p.qos
  · have hg : decide (0 < p.qos) = true := by simpa using hq
    have HP : Hid (pubX p = fieldL p.topic ++ (wordL p.id ++ p.load)) := by show _ = _; unfold pubX; rw [if_pos hq]
    clear hq
    go_wp2_with fail
    refine (refData_any p.topic _ l1).mono ?_
    rintro e w6 ⟨rfl, hb6⟩
    have hK1 := hK0.more hb6
    clear hb6
    clear hK0
    have a1r := hK1.row; have a1f := hK1.free; have a1c := hK1.cell; have a1l := hK1.lt; have a1z := hK1.froz
    obtain ⟨m1, hm1⟩ : ∃ m, fieldL p.topic ++ wordL p.id = m := ⟨_, rfl⟩
    have q1 : m1.length = (fieldL p.topic).length + 2 := by rw [← hm1, List.length_append]; try simp only [fieldL_len, wordL_len, List.length_cons, List.length_nil]
    try simp only [fieldL_len, wordL_len, List.length_cons, List.length_nil] at q1
    have had1 := fun W => add_str (P := Tryz.prog) W (fieldL p.topic) (wordL p.id) (by (try simp only [fieldL_len, wordL_len, List.length_cons, List.length_nil]); omega)
    rw [hm1] at had1
    have HM1 := Lib.hid hm1
    clear hm1
    obtain ⟨m2, hm2⟩ : ∃ m, m1 ++ p.load = m := ⟨_, rfl⟩
    have q2 : m2.length = (m1).length + p.load.length := by rw [← hm2, List.length_append]; try simp only [fieldL_len, wordL_len, List.length_cons, List.length_nil]
    try simp only [fieldL_len, wordL_len, List.length_cons, List.length_nil] at q2
    have had2 := fun W => add_str (P := Tryz.prog) W (m1) (p.load) (by (try simp only [fieldL_len, wordL_len, List.length_cons, List.length_nil]); omega)
    rw [hm2] at had2
    have HM2 := Lib.hid hm2
    clear hm2
    go_wp2_with fail
    refine (refWord_any p.id _ hid.1 hid.2).mono ?_
    rintro e w6 ⟨rfl, hb6⟩
    have hK2 := hK1.more hb6
    clear hb6
    clear a1r a1f a1c a1l a1z
    have a1r := hK2.row; have a1f := hK2.free; have a1c := hK2.cell; have a1l := hK2.lt; have a1z := hK2.froz
    go_wp2_with fail
    go_ret
    exact ⟨by rw [HX.out, HP.out, ← List.append_assoc, HM1.out, HM2.out]; rfl, hK2.below⟩
  · have hg : decide (0 < p.qos) = false := by simpa using hq
    have HP : Hid (pubX p = fieldL p.topic ++ ([] ++ p.load)) := by show _ = _; unfold pubX; rw [if_neg hq]
    clear hq
    go_wp2_with fail
    refine (refData_any p.topic _ l1).mono ?_
    rintro e w6 ⟨rfl, hb6⟩
    have hK1 := hK0.more hb6
    clear hb6
    clear hK0
    have a1r := hK1.row; have a1f := hK1.free; have a1c := hK1.cell; have a1l := hK1.lt; have a1z := hK1.froz
    obtain ⟨m1, hm1⟩ : ∃ m, fieldL p.topic ++ p.load = m := ⟨_, rfl⟩
    have q1 : m1.length = (fieldL p.topic).length + p.load.length := by rw [← hm1, List.length_append]; try simp only [fieldL_len, wordL_len, List.length_cons, List.length_nil]
    try simp only [fieldL_len, wordL_len, List.length_cons, List.length_nil] at q1
    have had1 := fun W => add_str (P := Tryz.prog) W (fieldL p.topic) (p.load) (by (try simp only [fieldL_len, wordL_len, List.length_cons, List.length_nil]); omega)
    rw [hm1] at had1
    have HM1 := Lib.hid hm1
    clear hm1
    go_wp2_with fail
    go_ret
    exact ⟨by rw [HX.out, HP.out, List.nil_append, HM1.out]; rfl, hK1.below⟩
set_option maxHeartbeats 4000000 in
theorem refRest_9 (p : Pk) (A : Option Addr) (n c : Nat) (xs : List (List UInt8 × Int)) (hs : Subs w A n xs) (hf : Fit p xs) (ho : Ok p xs) (e : p.ty = 9) :
    Calls Tryz.prog 17 #[.agg (PkC p A n c)] w fun e w' => e = .returned (.string ⟨(bodyL p xs).toArray⟩) ∧ Below w.heap.size w w' := by
  have HX : Hid (bodyL p xs = wordL p.id ++ p.codes) := by show _ = _; unfold bodyL; rw [e]; simp
  have hK0 := (Kp.nil w).new (PkC p A n c) 27
  have hid := hf.id
  have hld := load_le hf.tot
  have t1 : (p.ty == 1) = false := by rw [e]; rfl
  have t2 : (p.ty == 2) = false := by rw [e]; rfl
  have t3 : (p.ty == 3) = false := by rw [e]; rfl
  have t8 : (p.ty == 8) = false := by rw [e]; rfl
  have t9 : (p.ty == 9) = true := by rw [e]; rfl
  have t10 : (p.ty == 10) = false := by rw [e]; rfl
  have t12 : (p.ty == 12) = false := by rw [e]; rfl
  have t13 : (p.ty == 13) = false := by rw [e]; rfl
  have t14 : (p.ty == 14) = false := by rw [e]; rfl
  have had := fun W => add_str (P := Tryz.prog) W (wordL p.id) p.codes (by simp only [wordL_len]; omega)
  clear e hs hf ho
  go_enter Tryz.func17, Tryz.ntmps17
  go_upto_region 30 with fail
  refine wp_region_held_drew (S := Kp w [(w.heap.size, PkC p A n c, 27)]) (by kernel_rfl) hK0.drew (fun hHeld => ?_)
  clear hK0
  generalize hwd : World.drew _ = wd at hHeld ⊢
  clear hwd
  refine wpAnyH_take (i := 0) (oi := ({ dst := some 145, op := Go.Op.fieldAddr 27 (Go.Operand.tmp 1) 4, type := 0, pos := "ref.go:75", after := #[], guard := none } : Oper)) (v := ?vw8) rfl (by kernel_rfl) (by kernel_rfl) (by kernel_rfl) (fun _ _ _ h => h) (Or.inl ⟨by rfl, ?hz8⟩) (by assumption) ?rs8
  case hz8 => (intro wz hSw; (try have hq1 := hSw.tail.cell); (try have hq2 := hSw.tail.tail.cell); (try have hq3 := hSw.cell); (try have hq4 := hSw.tail.row); (try have hq5 := hSw.tail.tail.row); (try have hq6 := hSw.row); (try have hq7 := hSw.tail.tail.tail.row); (try clear hSw); go_simp; all_goals with_reducible rfl)
  try simp only [Act.put, List.setIfInBounds_toArray, List.set_cons_zero, List.set_cons_succ]
  refine wpAnyH_take (i := 1) (oi := ({ dst := some 146, op := Go.Op.load 22 (Go.Operand.tmp 145), type := 22, pos := "ref.go:75", after := #[{ on := 0, ground := Go.Ground.data }], guard := none } : Oper)) (v := ?vw9) rfl (by kernel_rfl) (by kernel_rfl) (by kernel_rfl) (fun _ _ _ h => h) (Or.inl ⟨by rfl, ?hz9⟩) (by assumption) ?rs9
  case hz9 => (intro wz hSw; (try have hq1 := hSw.tail.cell); (try have hq2 := hSw.tail.tail.cell); (try have hq3 := hSw.cell); (try have hq4 := hSw.tail.row); (try have hq5 := hSw.tail.tail.row); (try have hq6 := hSw.row); (try have hq7 := hSw.tail.tail.tail.row); (try clear hSw); go_simp; all_goals with_reducible rfl)
  try simp only [Act.put, List.setIfInBounds_toArray, List.set_cons_zero, List.set_cons_succ]
  refine wpAnyH_take (i := 3) (oi := ({ dst := some 148, op := Go.Op.fieldAddr 27 (Go.Operand.tmp 1) 20, type := 0, pos := "ref.go:75", after := #[], guard := none } : Oper)) (v := ?vw10) rfl (by kernel_rfl) (by kernel_rfl) (by kernel_rfl) (fun _ _ _ h => h) (Or.inl ⟨by rfl, ?hz10⟩) (by assumption) ?rs10
  case hz10 => (intro wz hSw; (try have hq1 := hSw.tail.cell); (try have hq2 := hSw.tail.tail.cell); (try have hq3 := hSw.cell); (try have hq4 := hSw.tail.row); (try have hq5 := hSw.tail.tail.row); (try have hq6 := hSw.row); (try have hq7 := hSw.tail.tail.tail.row); (try clear hSw); go_simp; all_goals with_reducible rfl)
  try simp only [Act.put, List.setIfInBounds_toArray, List.set_cons_zero, List.set_cons_succ]
  refine wpAnyH_take (i := 4) (oi := ({ dst := some 149, op := Go.Op.load 9 (Go.Operand.tmp 148), type := 9, pos := "ref.go:75", after := #[{ on := 3, ground := Go.Ground.data }], guard := none } : Oper)) (v := ?vw11) rfl (by kernel_rfl) (by kernel_rfl) (by kernel_rfl) (fun _ _ _ h => h) (Or.inl ⟨by rfl, ?hz11⟩) (by assumption) ?rs11
  case hz11 => (intro wz hSw; (try have hq1 := hSw.tail.cell); (try have hq2 := hSw.tail.tail.cell); (try have hq3 := hSw.cell); (try have hq4 := hSw.tail.row); (try have hq5 := hSw.tail.tail.row); (try have hq6 := hSw.row); (try have hq7 := hSw.tail.tail.tail.row); (try clear hSw); go_simp; all_goals with_reducible rfl)
  try simp only [Act.put, List.setIfInBounds_toArray, List.set_cons_zero, List.set_cons_succ]
  refine wpAnyH_ready (rs := [2]) (by kernel_rfl) (by simp) ?_
  refine (AllReadyH.cons (o := ({ dst := some 147, op := Go.Op.call { callee := Go.Callee.value (Go.Operand.func 37), args := #[Go.Operand.tmp 146], argTypes := #[22] }, type := 9, pos := "ref.go:75", after := #[{ on := 1, ground := Go.Ground.data }], guard := none } : Oper)) rfl (fun K hK => ?_) AllReadyH.nil)
  go_simp
  (go_at_call 37; refine (refWord_any p.id _ hid.1 hid.2).mono ?_; rintro e w6 ⟨rfl, hb6⟩)
  refine hK.out _ _ (by first | exact hHeld.more hb6 | exact hHeld | exact ⟨_, hK9⟩ | exact below_more hHeld hb6) (fun hHeld1 => ?_)
  clear hHeld; have hHeld := hHeld1; clear hHeld1 hK K
  try simp only [Act.put, List.setIfInBounds_toArray, List.set_cons_zero, List.set_cons_succ]
  refine wpAnyH_take (i := 5) (oi := ({ dst := some 150, op := Go.Op.binOp Go.BinOp.add 9 (Go.Operand.tmp 147) (Go.Operand.tmp 149) 9, type := 9, pos := "ref.go:75", after := #[{ on := 2, ground := Go.Ground.data }, { on := 4, ground := Go.Ground.data }], guard := none } : Oper)) (v := ?vw12) rfl (by kernel_rfl) (by kernel_rfl) (by kernel_rfl) (fun _ _ _ h => h) (Or.inl ⟨by rfl, ?hz12⟩) (by assumption) ?rs12
  case hz12 => (intro wz hSw; (try have hq1 := hSw.tail.cell); (try have hq2 := hSw.tail.tail.cell); (try have hq3 := hSw.cell); (try have hq4 := hSw.tail.row); (try have hq5 := hSw.tail.tail.row); (try have hq6 := hSw.row); (try have hq7 := hSw.tail.tail.tail.row); (try clear hSw); go_simp; all_goals with_reducible rfl)
  try simp only [Act.put, List.setIfInBounds_toArray, List.set_cons_zero, List.set_cons_succ]
  refine wpAnyH_take (i := 6) (oi := ({ dst := some 3, op := Go.Op.assign (Go.Operand.tmp 150), type := 9, pos := "ref.go:75", after := #[{ on := 5, ground := Go.Ground.data }, { on := 2, ground := Go.Ground.chain }, { on := 0, ground := Go.Ground.phase }, { on := 1, ground := Go.Ground.phase }, { on := 2, ground := Go.Ground.phase }, { on := 3, ground := Go.Ground.phase }, { on := 4, ground := Go.Ground.phase }, { on := 5, ground := Go.Ground.phase }], guard := none } : Oper)) (v := ?vw13) rfl (by kernel_rfl) (by kernel_rfl) (by kernel_rfl) (fun _ _ _ h => h) (Or.inl ⟨by rfl, ?hz13⟩) (by assumption) ?rs13
  case hz13 => (intro wz hSw; (try have hq1 := hSw.tail.cell); (try have hq2 := hSw.tail.tail.cell); (try have hq3 := hSw.cell); (try have hq4 := hSw.tail.row); (try have hq5 := hSw.tail.tail.row); (try have hq6 := hSw.row); (try have hq7 := hSw.tail.tail.tail.row); (try clear hSw); go_simp; all_goals with_reducible rfl)
  try simp only [Act.put, List.setIfInBounds_toArray, List.set_cons_zero, List.set_cons_succ]
  refine wpAnyH_done (by kernel_rfl) ?_ _
  go_wp2_with fail
  go_ret
  exact ⟨by rw [HX.out]; rfl, hHeld.below⟩
set_option maxHeartbeats 4000000 in
theorem refRest_8 (p : Pk) (A : Option Addr) (n c : Nat) (xs : List (List UInt8 × Int)) (hs : Subs w A n xs) (hf : Fit p xs) (ho : Ok p xs) (e : p.ty = 8) :
    Calls Tryz.prog 17 #[.agg (PkC p A n c)] w fun e w' => e = .returned (.string ⟨(bodyL p xs).toArray⟩) ∧ Below w.heap.size w w' := by
  have HX : Hid (bodyL p xs = wordL p.id ++ subX 8 xs) := by show _ = _; unfold bodyL; rw [e]; simp
  have hK0 := (Kp.nil w).new (PkC p A n c) 27
  have hid := hf.id
  have hld := load_le hf.tot
  have t1 : (p.ty == 1) = false := by rw [e]; rfl
  have t2 : (p.ty == 2) = false := by rw [e]; rfl
  have t3 : (p.ty == 3) = false := by rw [e]; rfl
  have t8 : (p.ty == 8) = true := by rw [e]; rfl
  have t9 : (p.ty == 9) = false := by rw [e]; rfl
  have t10 : (p.ty == 10) = false := by rw [e]; rfl
  have t12 : (p.ty == 12) = false := by rw [e]; rfl
  have t13 : (p.ty == 13) = false := by rw [e]; rfl
  have t14 : (p.ty == 14) = false := by rw [e]; rfl
  have HS := Lib.hid hs
  have hlen := hs.len
  have hnn : n ≤ 1000 := by have := hf.num; omega
  have HXS : Hid (∀ x ∈ xs, valB x.1 = true ∧ 0 ≤ x.2 ∧ x.2 ≤ 255) := fun x hx => ⟨(sbR_mem (ho.sub e) x hx).1, hf.sub x hx⟩
  have HLE : Hid (∀ k, (subX 8 (xs.take k)).length ≤ 65538 * xs.length) := by
    show ∀ k, _
    intro k
    have h1 := subX_le 8 (xs.take k) (fun x hx' => (HXS.out x (List.mem_of_mem_take hx')).1)
    have h2 : (xs.take k).length ≤ xs.length := by rw [List.length_take]; omega
    omega
  clear e hs hf ho
  go_enter Tryz.func17, Tryz.ntmps17
  go_wp2_with fail
  refine (refWord_any p.id _ hid.1 hid.2).mono ?_
  rintro e w6 ⟨rfl, hb6⟩
  have hK1 := hK0.more hb6
  clear hb6
  clear hK0
  have a1r := hK1.row; have a1f := hK1.free; have a1c := hK1.cell; have a1l := hK1.lt; have a1z := hK1.froz
  go_wp2_with fail
  go_loopw [3, 5] (fun s i wr => ∃ k : Nat, i = .int .i64 k ∧ k ≤ n ∧ s = .string ⟨(wordL p.id ++ subX 8 (xs.take k)).toArray⟩ ∧ Kp w [(w.heap.size, PkC p A n c, 27)] wr) (fun _ i _ => n - (intOf i).toNat)
  case atStart => exact ⟨0, rfl, by omega, by simp [subX], hK1⟩
  case round =>
    clear a1r a1f a1c a1l a1z hK1
    obtain ⟨k, rfl, hk, rfl, hK2⟩ := hrel
    have a1r := hK2.row; have a1f := hK2.free; have a1c := hK2.cell; have a1l := hK2.lt; have a1z := hK2.froz
    have hle := HLE.out k
    by_cases hlt : k < n
    · have hlt2 : (k : Int) < (n : Int) := by omega
      obtain ⟨bx, off, x, rfl, hxk, hx1, hx2⟩ := (HS.out.below hK2.below).two hlt
      have HSN := Lib.hid (subX_snoc 8 xs k x hxk)
      have HXK := Lib.hid hxk
      obtain ⟨hv, q0, q1⟩ := HXS.out x (List.mem_of_getElem? hxk)
      have hvl := val_len hv
      clear hxk hv
      obtain ⟨m0, hm0⟩ : ∃ m, wordL p.id ++ subX 8 (xs.take k) = m := ⟨_, rfl⟩
      have q9 : m0.length ≤ 65538 * xs.length + 2 := by rw [← hm0, List.length_append, wordL_len]; omega
      rw [hm0]
      have HM0 := Lib.hid hm0
      clear hm0
      obtain ⟨m1, hm1⟩ : ∃ m, m0 ++ fieldL x.1 = m := ⟨_, rfl⟩
      have q1 : m1.length = (m0).length + (x.1.length + 2) := by rw [← hm1, List.length_append]; try simp only [fieldL_len, wordL_len, List.length_cons, List.length_nil]
      try simp only [fieldL_len, wordL_len, List.length_cons, List.length_nil] at q1
      have had1 := fun W => add_str (P := Tryz.prog) W (m0) (fieldL x.1) (by (try simp only [fieldL_len, wordL_len, List.length_cons, List.length_nil]); omega)
      rw [hm1] at had1
      have HM1 := Lib.hid hm1
      clear hm1
      obtain ⟨m2, hm2⟩ : ∃ m, m1 ++ [toB x.2] = m := ⟨_, rfl⟩
      have q2 : m2.length = (m1).length + 1 := by rw [← hm2, List.length_append]; try simp only [fieldL_len, wordL_len, List.length_cons, List.length_nil]
      try simp only [fieldL_len, wordL_len, List.length_cons, List.length_nil] at q2
      have had2 := fun W => add_str (P := Tryz.prog) W (m1) ([toB x.2]) (by (try simp only [fieldL_len, wordL_len, List.length_cons, List.length_nil]); omega)
      rw [hm2] at had2
      have HM2 := Lib.hid hm2
      clear hm2
      go_wp2_with fail
      refine (refData_any x.1 _ hvl).mono ?_
      rintro e w6 ⟨rfl, hb6⟩
      have hK3 := hK2.more hb6
      clear hb6
      have HB3 := Lib.hid hK3.below
      clear a1r a1f a1c a1l a1z
      clear hK2
      have a1r := hK3.row; have a1f := hK3.free; have a1c := hK3.cell; have a1l := hK3.lt; have a1z := hK3.froz
      obtain ⟨by', off', x', he', hxk', hy1, hy2⟩ := (HS.out.below hK3.below).two hlt
      cases he'
      obtain rfl : x = x' := by have := HXK.out; rw [this] at hxk'; exact Option.some.inj hxk'
      clear hx1 hx2 hxk'
      have w1 : IntKind.i64.wrap x.2 = x.2 := IntWalk.i64_in _ (by omega)
      go_wp2_with fail
      refine (refOne_any x.2 _ q0 (by omega)).mono ?_
      rintro e w6 ⟨rfl, hb6⟩
      have hK4 := hK3.more hb6
      clear hb6
      clear a1r a1f a1c a1l a1z
      clear hK3
      go_wp2_with fail
      go_roundw
      case rel => exact ⟨k + 1, by go_num, by omega, by rw [HSN.out]; rw [← HM2.out, ← HM1.out, ← HM0.out]; simp, hK4⟩
      case measure => simp [intOf]; omega
    · have hge : ¬ (k : Int) < (n : Int) := by omega
      have hke : xs.take k = xs := List.take_of_length_le (by omega)
      rw [hke]
      clear hke
      go_wp2_with fail
      go_ret
      exact ⟨by rw [HX.out]; rfl, hK2.below⟩
set_option maxHeartbeats 4000000 in
theorem refRest_10 (p : Pk) (A : Option Addr) (n c : Nat) (xs : List (List UInt8 × Int)) (hs : Subs w A n xs) (hf : Fit p xs) (ho : Ok p xs) (e : p.ty = 10) :
    Calls Tryz.prog 17 #[.agg (PkC p A n c)] w fun e w' => e = .returned (.string ⟨(bodyL p xs).toArray⟩) ∧ Below w.heap.size w w' := by
  have HX : Hid (bodyL p xs = wordL p.id ++ subX 10 xs) := by show _ = _; unfold bodyL; rw [e]; simp
  have hK0 := (Kp.nil w).new (PkC p A n c) 27
  have hid := hf.id
  have hld := load_le hf.tot
  have t1 : (p.ty == 1) = false := by rw [e]; rfl
  have t2 : (p.ty == 2) = false := by rw [e]; rfl
  have t3 : (p.ty == 3) = false := by rw [e]; rfl
  have t8 : (p.ty == 8) = false := by rw [e]; rfl
  have t9 : (p.ty == 9) = false := by rw [e]; rfl
  have t10 : (p.ty == 10) = true := by rw [e]; rfl
  have t12 : (p.ty == 12) = false := by rw [e]; rfl
  have t13 : (p.ty == 13) = false := by rw [e]; rfl
  have t14 : (p.ty == 14) = false := by rw [e]; rfl
  have HS := Lib.hid hs
  have hlen := hs.len
  have hnn : n ≤ 1000 := by have := hf.num; omega
  have HXS : Hid (∀ x ∈ xs, valB x.1 = true ∧ 0 ≤ x.2 ∧ x.2 ≤ 255) := fun x hx => ⟨(sbR_mem (ho.uns e) x hx).1, hf.sub x hx⟩
  have HLE : Hid (∀ k, (subX 10 (xs.take k)).length ≤ 65538 * xs.length) := by
    show ∀ k, _
    intro k
    have h1 := subX_le 10 (xs.take k) (fun x hx' => (HXS.out x (List.mem_of_mem_take hx')).1)
    have h2 : (xs.take k).length ≤ xs.length := by rw [List.length_take]; omega
    omega
  clear e hs hf ho
  go_enter Tryz.func17, Tryz.ntmps17
  go_wp2_with fail
  refine (refWord_any p.id _ hid.1 hid.2).mono ?_
  rintro e w6 ⟨rfl, hb6⟩
  have hK1 := hK0.more hb6
  clear hb6
  clear hK0
  have a1r := hK1.row; have a1f := hK1.free; have a1c := hK1.cell; have a1l := hK1.lt; have a1z := hK1.froz
  go_wp2_with fail
  go_loopw [3, 5] (fun s i wr => ∃ k : Nat, i = .int .i64 k ∧ k ≤ n ∧ s = .string ⟨(wordL p.id ++ subX 10 (xs.take k)).toArray⟩ ∧ Kp w [(w.heap.size, PkC p A n c, 27)] wr) (fun _ i _ => n - (intOf i).toNat)
  case atStart => exact ⟨0, rfl, by omega, by simp [subX], hK1⟩
  case round =>
    clear a1r a1f a1c a1l a1z hK1
    obtain ⟨k, rfl, hk, rfl, hK2⟩ := hrel
    have a1r := hK2.row; have a1f := hK2.free; have a1c := hK2.cell; have a1l := hK2.lt; have a1z := hK2.froz
    have hle := HLE.out k
    by_cases hlt : k < n
    · have hlt2 : (k : Int) < (n : Int) := by omega
      obtain ⟨bx, off, x, rfl, hxk, hx1, hx2⟩ := (HS.out.below hK2.below).two hlt
      have HSN := Lib.hid (subX_snoc 10 xs k x hxk)
      have HXK := Lib.hid hxk
      obtain ⟨hv, q0, q1⟩ := HXS.out x (List.mem_of_getElem? hxk)
      have hvl := val_len hv
      clear hxk hv
      obtain ⟨m0, hm0⟩ : ∃ m, wordL p.id ++ subX 10 (xs.take k) = m := ⟨_, rfl⟩
      have q9 : m0.length ≤ 65538 * xs.length + 2 := by rw [← hm0, List.length_append, wordL_len]; omega
      rw [hm0]
      have HM0 := Lib.hid hm0
      clear hm0
      obtain ⟨m1, hm1⟩ : ∃ m, m0 ++ fieldL x.1 = m := ⟨_, rfl⟩
      have q1 : m1.length = (m0).length + (x.1.length + 2) := by rw [← hm1, List.length_append]; try simp only [fieldL_len, wordL_len, List.length_cons, List.length_nil]
      try simp only [fieldL_len, wordL_len, List.length_cons, List.length_nil] at q1
      have had1 := fun W => add_str (P := Tryz.prog) W (m0) (fieldL x.1) (by (try simp only [fieldL_len, wordL_len, List.length_cons, List.length_nil]); omega)
      rw [hm1] at had1
      have HM1 := Lib.hid hm1
      clear hm1
      go_wp2_with fail
      refine (refData_any x.1 _ hvl).mono ?_
      rintro e w6 ⟨rfl, hb6⟩
      have hK3 := hK2.more hb6
      clear hb6
      have HB3 := Lib.hid hK3.below
      clear a1r a1f a1c a1l a1z
      clear hK2
      have a1r := hK3.row; have a1f := hK3.free; have a1c := hK3.cell; have a1l := hK3.lt; have a1z := hK3.froz
      go_wp2_with fail
      go_roundw
      case rel => exact ⟨k + 1, by go_num, by omega, by rw [HSN.out]; rw [← HM1.out, ← HM0.out]; simp, hK3⟩
      case measure => simp [intOf]; omega
    · have hge : ¬ (k : Int) < (n : Int) := by omega
      have hke : xs.take k = xs := List.take_of_length_le (by omega)
      rw [hke]
      clear hke
      go_wp2_with fail
      go_ret
      exact ⟨by rw [HX.out]; rfl, hK2.below⟩
set_option maxHeartbeats 4000000 in
theorem refRest_1 (p : Pk) (A : Option Addr) (n c : Nat) (xs : List (List UInt8 × Int)) (hs : Subs w A n xs) (hf : Fit p xs) (ho : Ok p xs) (e : p.ty = 1) :
    Calls Tryz.prog 17 #[.agg (PkC p A n c)] w fun e w' => e = .returned (.string ⟨(bodyL p xs).toArray⟩) ∧ Below w.heap.size w w' := by
  have HX : Hid (bodyL p xs = conX p) := by show _ = _; unfold bodyL; rw [e]; simp
  have hK0 := (Kp.nil w).new (PkC p A n c) 27
  have hid := hf.id
  have hld := load_le hf.tot
  have t1 : (p.ty == 1) = true := by rw [e]; rfl
  have t2 : (p.ty == 2) = false := by rw [e]; rfl
  have t3 : (p.ty == 3) = false := by rw [e]; rfl
  have t8 : (p.ty == 8) = false := by rw [e]; rfl
  have t9 : (p.ty == 9) = false := by rw [e]; rfl
  have t10 : (p.ty == 10) = false := by rw [e]; rfl
  have t12 : (p.ty == 12) = false := by rw [e]; rfl
  have t13 : (p.ty == 13) = false := by rw [e]; rfl
  have t14 : (p.ty == 14) = false := by rw [e]; rfl
  have HC := Lib.hid (con_of (ho.con e))
  have hq0 := hf.wq.1
  have hq2 := HC.out.wq hq0
  have l1 := val_len HC.out.client
  have hkp := hf.keep
  have hcb := cfl_bd hq0 hq2
  have b1 := yes_bd p.hasUser 128 (by omega)
  have b2 := yes_bd p.hasPass 64 (by omega)
  have b3 := yes_bd p.wr 32 (by omega)
  have b4 := yes_bd p.hasWill 4 (by omega)
  have b5 := yes_bd p.clean 2 (by omega)
  have w0 : IntKind.i64.wrap p.wq = p.wq := IntWalk.i64_in _ (by omega)
  have w1 : IntKind.i64.wrap (8 * p.wq) = 8 * p.wq := IntWalk.i64_in _ (by omega)
  have w2 : IntKind.i64.wrap (yesI p.hasUser 128 + yesI p.hasPass 64) = yesI p.hasUser 128 + yesI p.hasPass 64 := IntWalk.i64_in _ (by omega)
  have w3 : IntKind.i64.wrap (yesI p.hasUser 128 + yesI p.hasPass 64 + yesI p.wr 32) = yesI p.hasUser 128 + yesI p.hasPass 64 + yesI p.wr 32 := IntWalk.i64_in _ (by omega)
  have w4 : IntKind.i64.wrap (yesI p.hasUser 128 + yesI p.hasPass 64 + yesI p.wr 32 + 8 * p.wq) = yesI p.hasUser 128 + yesI p.hasPass 64 + yesI p.wr 32 + 8 * p.wq := IntWalk.i64_in _ (by omega)
  have w5 : IntKind.i64.wrap (yesI p.hasUser 128 + yesI p.hasPass 64 + yesI p.wr 32 + 8 * p.wq + yesI p.hasWill 4) = yesI p.hasUser 128 + yesI p.hasPass 64 + yesI p.wr 32 + 8 * p.wq + yesI p.hasWill 4 := IntWalk.i64_in _ (by omega)
  obtain ⟨cf, hcf⟩ : ∃ cf, cflN p = cf := ⟨_, rfl⟩
  have w6 : IntKind.i64.wrap (yesI p.hasUser 128 + yesI p.hasPass 64 + yesI p.wr 32 + 8 * p.wq + yesI p.hasWill 4 + yesI p.clean 2) = cf := by rw [← hcf, IntWalk.i64_in _ (by omega)]; unfold cflN; omega
  rw [hcf] at hcb
  have HCF := Lib.hid hcf
  clear hcf b1 b2 b3 b4 b5
  obtain ⟨m1, hm1⟩ : ∃ m, fieldL [77, 81, 84, 84] ++ [toB 4] = m := ⟨_, rfl⟩
  have q1 : m1.length = (fieldL [77, 81, 84, 84]).length + 1 := by rw [← hm1, List.length_append]; try simp only [fieldL_len, wordL_len, List.length_cons, List.length_nil]
  try simp only [fieldL_len, wordL_len, List.length_cons, List.length_nil] at q1
  have had1 := fun W => add_str (P := Tryz.prog) W (fieldL [77, 81, 84, 84]) ([toB 4]) (by (try simp only [fieldL_len, wordL_len, List.length_cons, List.length_nil]); omega)
  rw [hm1] at had1
  have HM1 := Lib.hid hm1
  clear hm1
  obtain ⟨m2, hm2⟩ : ∃ m, m1 ++ [toB cf] = m := ⟨_, rfl⟩
  have q2 : m2.length = (m1).length + 1 := by rw [← hm2, List.length_append]; try simp only [fieldL_len, wordL_len, List.length_cons, List.length_nil]
  try simp only [fieldL_len, wordL_len, List.length_cons, List.length_nil] at q2
  have had2 := fun W => add_str (P := Tryz.prog) W (m1) ([toB cf]) (by (try simp only [fieldL_len, wordL_len, List.length_cons, List.length_nil]); omega)
  rw [hm2] at had2
  have HM2 := Lib.hid hm2
  clear hm2
  obtain ⟨m3, hm3⟩ : ∃ m, m2 ++ wordL p.keep = m := ⟨_, rfl⟩
  have q3 : m3.length = (m2).length + 2 := by rw [← hm3, List.length_append]; try simp only [fieldL_len, wordL_len, List.length_cons, List.length_nil]
  try simp only [fieldL_len, wordL_len, List.length_cons, List.length_nil] at q3
  have had3 := fun W => add_str (P := Tryz.prog) W (m2) (wordL p.keep) (by (try simp only [fieldL_len, wordL_len, List.length_cons, List.length_nil]); omega)
  rw [hm3] at had3
  have HM3 := Lib.hid hm3
  clear hm3
  obtain ⟨m4, hm4⟩ : ∃ m, m3 ++ fieldL p.client = m := ⟨_, rfl⟩
  have q4 : m4.length = (m3).length + (p.client.length + 2) := by rw [← hm4, List.length_append]; try simp only [fieldL_len, wordL_len, List.length_cons, List.length_nil]
  try simp only [fieldL_len, wordL_len, List.length_cons, List.length_nil] at q4
  have had4 := fun W => add_str (P := Tryz.prog) W (m3) (fieldL p.client) (by (try simp only [fieldL_len, wordL_len, List.length_cons, List.length_nil]); omega)
  rw [hm4] at had4
  have HM4 := Lib.hid hm4
  clear hm4
  clear e hs hf ho
  go_enter Tryz.func17, Tryz.ntmps17
  go_upto_region 5 with fail
  go_quiet ((go_at_call 35; first | exact quiet_left (refYes_any _ _ _) | exact quiet_more (refYes_any _ _ _)))
  go_wp2_with fail
  have hKd := hK0.more (below_drewN (Below.refl _ _) nq)
  generalize hwd : World.drewN _ _ = wd at hKd ⊢
  clear hwd hK0 w0 w1 w2 w3 w4 w5 w6
  go_cut [3] (fun s3 wx => s3 = .string ⟨m4.toArray⟩ ∧ Kp w [(w.heap.size, PkC p A n c, 27)] wx)
  case first =>
    refine wp_region_held_drew (S := Kp w [(w.heap.size, PkC p A n c, 27)]) (by kernel_rfl) hKd.drew (fun hHeld => ?_)
    clear hKd
    generalize hwd : World.drew _ = we at hHeld ⊢
    clear hwd
    refine wpAnyH_take (i := 3) (oi := ({ dst := some 42, op := Go.Op.move (Go.Operand.tmp 4), type := 3, pos := "ref.go:48", after := #[], guard := none } : Oper)) (v := ?vw14) rfl (by kernel_rfl) (by kernel_rfl) (by kernel_rfl) (fun _ _ _ h => h) (Or.inl ⟨by rfl, ?hz14⟩) (by assumption) ?rs14
    case hz14 => (intro wz hSw; (try have hq1 := hSw.tail.cell); (try have hq2 := hSw.tail.tail.cell); (try have hq3 := hSw.cell); (try have hq4 := hSw.tail.row); (try have hq5 := hSw.tail.tail.row); (try have hq6 := hSw.row); (try have hq7 := hSw.tail.tail.tail.row); (try clear hSw); go_simp; all_goals with_reducible rfl)
    try simp only [Act.put, List.setIfInBounds_toArray, List.set_cons_zero, List.set_cons_succ]
    refine wpAnyH_take (i := 6) (oi := ({ dst := some 45, op := Go.Op.fieldAddr 27 (Go.Operand.tmp 1) 9, type := 0, pos := "ref.go:48", after := #[], guard := none } : Oper)) (v := ?vw15) rfl (by kernel_rfl) (by kernel_rfl) (by kernel_rfl) (fun _ _ _ h => h) (Or.inl ⟨by rfl, ?hz15⟩) (by assumption) ?rs15
    case hz15 => (intro wz hSw; (try have hq1 := hSw.tail.cell); (try have hq2 := hSw.tail.tail.cell); (try have hq3 := hSw.cell); (try have hq4 := hSw.tail.row); (try have hq5 := hSw.tail.tail.row); (try have hq6 := hSw.row); (try have hq7 := hSw.tail.tail.tail.row); (try clear hSw); go_simp; all_goals with_reducible rfl)
    try simp only [Act.put, List.setIfInBounds_toArray, List.set_cons_zero, List.set_cons_succ]
    refine wpAnyH_take (i := 7) (oi := ({ dst := some 46, op := Go.Op.load 22 (Go.Operand.tmp 45), type := 22, pos := "ref.go:48", after := #[{ on := 6, ground := Go.Ground.data }], guard := none } : Oper)) (v := ?vw16) rfl (by kernel_rfl) (by kernel_rfl) (by kernel_rfl) (fun _ _ _ h => h) (Or.inl ⟨by rfl, ?hz16⟩) (by assumption) ?rs16
    case hz16 => (intro wz hSw; (try have hq1 := hSw.tail.cell); (try have hq2 := hSw.tail.tail.cell); (try have hq3 := hSw.cell); (try have hq4 := hSw.tail.row); (try have hq5 := hSw.tail.tail.row); (try have hq6 := hSw.row); (try have hq7 := hSw.tail.tail.tail.row); (try clear hSw); go_simp; all_goals with_reducible rfl)
    try simp only [Act.put, List.setIfInBounds_toArray, List.set_cons_zero, List.set_cons_succ]
    refine wpAnyH_take (i := 10) (oi := ({ dst := some 49, op := Go.Op.fieldAddr 27 (Go.Operand.tmp 1) 10, type := 0, pos := "ref.go:48", after := #[], guard := none } : Oper)) (v := ?vw17) rfl (by kernel_rfl) (by kernel_rfl) (by kernel_rfl) (fun _ _ _ h => h) (Or.inl ⟨by rfl, ?hz17⟩) (by assumption) ?rs17
    case hz17 => (intro wz hSw; (try have hq1 := hSw.tail.cell); (try have hq2 := hSw.tail.tail.cell); (try have hq3 := hSw.cell); (try have hq4 := hSw.tail.row); (try have hq5 := hSw.tail.tail.row); (try have hq6 := hSw.row); (try have hq7 := hSw.tail.tail.tail.row); (try clear hSw); go_simp; all_goals with_reducible rfl)
    try simp only [Act.put, List.setIfInBounds_toArray, List.set_cons_zero, List.set_cons_succ]
    refine wpAnyH_take (i := 11) (oi := ({ dst := some 50, op := Go.Op.load 9 (Go.Operand.tmp 49), type := 9, pos := "ref.go:48", after := #[{ on := 10, ground := Go.Ground.data }], guard := none } : Oper)) (v := ?vw18) rfl (by kernel_rfl) (by kernel_rfl) (by kernel_rfl) (fun _ _ _ h => h) (Or.inl ⟨by rfl, ?hz18⟩) (by assumption) ?rs18
    case hz18 => (intro wz hSw; (try have hq1 := hSw.tail.cell); (try have hq2 := hSw.tail.tail.cell); (try have hq3 := hSw.cell); (try have hq4 := hSw.tail.row); (try have hq5 := hSw.tail.tail.row); (try have hq6 := hSw.row); (try have hq7 := hSw.tail.tail.tail.row); (try clear hSw); go_simp; all_goals with_reducible rfl)
    try simp only [Act.put, List.setIfInBounds_toArray, List.set_cons_zero, List.set_cons_succ]
    refine wpAnyH_ready (rs := [0]) (by kernel_rfl) (by simp) ?_
    refine (AllReadyH.cons (o := ({ dst := some 39, op := Go.Op.call { callee := Go.Callee.value (Go.Operand.func 36), args := #[Go.Operand.const (Go.Value.string { data := #[77, 81, 84, 84] })], argTypes := #[9] }, type := 9, pos := "ref.go:48", after := #[], guard := none } : Oper)) rfl (fun K hK => ?_) AllReadyH.nil)
    go_simp
    (go_at_call 36; refine (refData_any [77, 81, 84, 84] _ (by simp)).mono ?_; rintro e w6 ⟨rfl, hb6⟩)
    refine hK.out _ _ (by first | exact hHeld.more hb6 | exact hHeld | exact ⟨_, hK9⟩ | exact below_more hHeld hb6) (fun hHeld1 => ?_)
    clear hHeld; have hHeld := hHeld1; clear hHeld1 hK K
    try simp only [Act.put, List.setIfInBounds_toArray, List.set_cons_zero, List.set_cons_succ]
    refine wpAnyH_ready (rs := [1]) (by kernel_rfl) (by simp) ?_
    refine (AllReadyH.cons (o := ({ dst := some 40, op := Go.Op.call { callee := Go.Callee.value (Go.Operand.func 19), args := #[Go.Operand.const (Go.Value.int Go.IntKind.i64 4)], argTypes := #[3] }, type := 9, pos := "ref.go:48", after := #[{ on := 0, ground := Go.Ground.chain }], guard := none } : Oper)) rfl (fun K hK => ?_) AllReadyH.nil)
    go_simp
    (go_at_call 19; refine (refOne_any 4 _ (by omega) (by omega)).mono ?_; rintro e w6 ⟨rfl, hb6⟩)
    refine hK.out _ _ (by first | exact hHeld.more hb6 | exact hHeld | exact ⟨_, hK9⟩ | exact below_more hHeld hb6) (fun hHeld1 => ?_)
    clear hHeld; have hHeld := hHeld1; clear hHeld1 hK K
    try simp only [Act.put, List.setIfInBounds_toArray, List.set_cons_zero, List.set_cons_succ]
    refine wpAnyH_take (i := 2) (oi := ({ dst := some 41, op := Go.Op.binOp Go.BinOp.add 9 (Go.Operand.tmp 39) (Go.Operand.tmp 40) 9, type := 9, pos := "ref.go:48", after := #[{ on := 0, ground := Go.Ground.data }, { on := 1, ground := Go.Ground.data }], guard := none } : Oper)) (v := ?vw19) rfl (by kernel_rfl) (by kernel_rfl) (by kernel_rfl) (fun _ _ _ h => h) (Or.inl ⟨by rfl, ?hz19⟩) (by assumption) ?rs19
    case hz19 => (intro wz hSw; (try have hq1 := hSw.tail.cell); (try have hq2 := hSw.tail.tail.cell); (try have hq3 := hSw.cell); (try have hq4 := hSw.tail.row); (try have hq5 := hSw.tail.tail.row); (try have hq6 := hSw.row); (try have hq7 := hSw.tail.tail.tail.row); (try clear hSw); go_simp; all_goals with_reducible rfl)
    try simp only [Act.put, List.setIfInBounds_toArray, List.set_cons_zero, List.set_cons_succ]
    refine wpAnyH_ready (rs := [4]) (by kernel_rfl) (by simp) ?_
    refine (AllReadyH.cons (o := ({ dst := some 43, op := Go.Op.call { callee := Go.Callee.value (Go.Operand.func 19), args := #[Go.Operand.tmp 42], argTypes := #[3] }, type := 9, pos := "ref.go:48", after := #[{ on := 3, ground := Go.Ground.data }, { on := 1, ground := Go.Ground.chain }], guard := none } : Oper)) rfl (fun K hK => ?_) AllReadyH.nil)
    go_simp
    (go_at_call 19; refine (refOne_any cf _ hcb.1 hcb.2).mono ?_; rintro e w6 ⟨rfl, hb6⟩)
    refine hK.out _ _ (by first | exact hHeld.more hb6 | exact hHeld | exact ⟨_, hK9⟩ | exact below_more hHeld hb6) (fun hHeld1 => ?_)
    clear hHeld; have hHeld := hHeld1; clear hHeld1 hK K
    try simp only [Act.put, List.setIfInBounds_toArray, List.set_cons_zero, List.set_cons_succ]
    refine wpAnyH_take (i := 5) (oi := ({ dst := some 44, op := Go.Op.binOp Go.BinOp.add 9 (Go.Operand.tmp 41) (Go.Operand.tmp 43) 9, type := 9, pos := "ref.go:48", after := #[{ on := 2, ground := Go.Ground.data }, { on := 4, ground := Go.Ground.data }], guard := none } : Oper)) (v := ?vw20) rfl (by kernel_rfl) (by kernel_rfl) (by kernel_rfl) (fun _ _ _ h => h) (Or.inl ⟨by rfl, ?hz20⟩) (by assumption) ?rs20
    case hz20 => (intro wz hSw; (try have hq1 := hSw.tail.cell); (try have hq2 := hSw.tail.tail.cell); (try have hq3 := hSw.cell); (try have hq4 := hSw.tail.row); (try have hq5 := hSw.tail.tail.row); (try have hq6 := hSw.row); (try have hq7 := hSw.tail.tail.tail.row); (try clear hSw); go_simp; all_goals with_reducible rfl)
    try simp only [Act.put, List.setIfInBounds_toArray, List.set_cons_zero, List.set_cons_succ]
    refine wpAnyH_ready (rs := [8]) (by kernel_rfl) (by simp) ?_
    refine (AllReadyH.cons (o := ({ dst := some 47, op := Go.Op.call { callee := Go.Callee.value (Go.Operand.func 37), args := #[Go.Operand.tmp 46], argTypes := #[22] }, type := 9, pos := "ref.go:48", after := #[{ on := 7, ground := Go.Ground.data }, { on := 4, ground := Go.Ground.chain }], guard := none } : Oper)) rfl (fun K hK => ?_) AllReadyH.nil)
    go_simp
    (go_at_call 37; refine (refWord_any p.keep _ hkp.1 hkp.2).mono ?_; rintro e w6 ⟨rfl, hb6⟩)
    refine hK.out _ _ (by first | exact hHeld.more hb6 | exact hHeld | exact ⟨_, hK9⟩ | exact below_more hHeld hb6) (fun hHeld1 => ?_)
    clear hHeld; have hHeld := hHeld1; clear hHeld1 hK K
    try simp only [Act.put, List.setIfInBounds_toArray, List.set_cons_zero, List.set_cons_succ]
    refine wpAnyH_take (i := 9) (oi := ({ dst := some 48, op := Go.Op.binOp Go.BinOp.add 9 (Go.Operand.tmp 44) (Go.Operand.tmp 47) 9, type := 9, pos := "ref.go:48", after := #[{ on := 5, ground := Go.Ground.data }, { on := 8, ground := Go.Ground.data }], guard := none } : Oper)) (v := ?vw21) rfl (by kernel_rfl) (by kernel_rfl) (by kernel_rfl) (fun _ _ _ h => h) (Or.inl ⟨by rfl, ?hz21⟩) (by assumption) ?rs21
    case hz21 => (intro wz hSw; (try have hq1 := hSw.tail.cell); (try have hq2 := hSw.tail.tail.cell); (try have hq3 := hSw.cell); (try have hq4 := hSw.tail.row); (try have hq5 := hSw.tail.tail.row); (try have hq6 := hSw.row); (try have hq7 := hSw.tail.tail.tail.row); (try clear hSw); go_simp; all_goals with_reducible rfl)
    try simp only [Act.put, List.setIfInBounds_toArray, List.set_cons_zero, List.set_cons_succ]
    refine wpAnyH_ready (rs := [12]) (by kernel_rfl) (by simp) ?_
    refine (AllReadyH.cons (o := ({ dst := some 51, op := Go.Op.call { callee := Go.Callee.value (Go.Operand.func 36), args := #[Go.Operand.tmp 50], argTypes := #[9] }, type := 9, pos := "ref.go:48", after := #[{ on := 11, ground := Go.Ground.data }, { on := 8, ground := Go.Ground.chain }], guard := none } : Oper)) rfl (fun K hK => ?_) AllReadyH.nil)
    go_simp
    (go_at_call 36; refine (refData_any p.client _ l1).mono ?_; rintro e w6 ⟨rfl, hb6⟩)
    refine hK.out _ _ (by first | exact hHeld.more hb6 | exact hHeld | exact ⟨_, hK9⟩ | exact below_more hHeld hb6) (fun hHeld1 => ?_)
    clear hHeld; have hHeld := hHeld1; clear hHeld1 hK K
    try simp only [Act.put, List.setIfInBounds_toArray, List.set_cons_zero, List.set_cons_succ]
    refine wpAnyH_take (i := 13) (oi := ({ dst := some 52, op := Go.Op.binOp Go.BinOp.add 9 (Go.Operand.tmp 48) (Go.Operand.tmp 51) 9, type := 9, pos := "ref.go:48", after := #[{ on := 9, ground := Go.Ground.data }, { on := 12, ground := Go.Ground.data }], guard := none } : Oper)) (v := ?vw22) rfl (by kernel_rfl) (by kernel_rfl) (by kernel_rfl) (fun _ _ _ h => h) (Or.inl ⟨by rfl, ?hz22⟩) (by assumption) ?rs22
    case hz22 => (intro wz hSw; (try have hq1 := hSw.tail.cell); (try have hq2 := hSw.tail.tail.cell); (try have hq3 := hSw.cell); (try have hq4 := hSw.tail.row); (try have hq5 := hSw.tail.tail.row); (try have hq6 := hSw.row); (try have hq7 := hSw.tail.tail.tail.row); (try clear hSw); go_simp; all_goals with_reducible rfl)
    try simp only [Act.put, List.setIfInBounds_toArray, List.set_cons_zero, List.set_cons_succ]
    refine wpAnyH_take (i := 14) (oi := ({ dst := some 3, op := Go.Op.assign (Go.Operand.tmp 52), type := 9, pos := "ref.go:48", after := #[{ on := 13, ground := Go.Ground.data }, { on := 12, ground := Go.Ground.chain }, { on := 0, ground := Go.Ground.phase }, { on := 1, ground := Go.Ground.phase }, { on := 2, ground := Go.Ground.phase }, { on := 3, ground := Go.Ground.phase }, { on := 4, ground := Go.Ground.phase }, { on := 5, ground := Go.Ground.phase }, { on := 6, ground := Go.Ground.phase }, { on := 7, ground := Go.Ground.phase }, { on := 8, ground := Go.Ground.phase }, { on := 9, ground := Go.Ground.phase }, { on := 10, ground := Go.Ground.phase }, { on := 11, ground := Go.Ground.phase }, { on := 12, ground := Go.Ground.phase }, { on := 13, ground := Go.Ground.phase }], guard := none } : Oper)) (v := ?vw23) rfl (by kernel_rfl) (by kernel_rfl) (by kernel_rfl) (fun _ _ _ h => h) (Or.inl ⟨by rfl, ?hz23⟩) (by assumption) ?rs23
    case hz23 => (intro wz hSw; (try have hq1 := hSw.tail.cell); (try have hq2 := hSw.tail.tail.cell); (try have hq3 := hSw.cell); (try have hq4 := hSw.tail.row); (try have hq5 := hSw.tail.tail.row); (try have hq6 := hSw.row); (try have hq7 := hSw.tail.tail.tail.row); (try clear hSw); go_simp; all_goals with_reducible rfl)
    try simp only [Act.put, List.setIfInBounds_toArray, List.set_cons_zero, List.set_cons_succ]
    refine wpAnyH_done (by kernel_rfl) ?_ _
    go_wp2_with fail
    go_meet
    case rel => exact ⟨rfl, hHeld⟩
  obtain ⟨rfl, hHeld⟩ := hcut
  clear hKd
  clear had1 had2 had3 had4
  have a1r := hHeld.row; have a1f := hHeld.free; have a1c := hHeld.cell; have a1l := hHeld.lt; have a1z := hHeld.froz
  cases hW : p.hasWill <;> cases hU : p.hasUser <;> cases hP : p.hasPass
  · have HE : Hid (conX p = fieldL [77, 81, 84, 84] ++ ([4] ++ ([toB cf] ++ (wordL p.keep ++ (fieldL p.client ++ ([] ++ ([] ++ []))))))) := by show _ = _; unfold conX willL userL passL; rw [HCF.out, hW, hU, hP]; simp
    go_wp2_with fail
    go_ret
    exact ⟨by rw [HX.out, HE.out, ← HM4.out, ← HM3.out, ← HM2.out, ← HM1.out]; simp [toB], hHeld.below⟩
  · have HE : Hid (conX p = fieldL [77, 81, 84, 84] ++ ([4] ++ ([toB cf] ++ (wordL p.keep ++ (fieldL p.client ++ ([] ++ ([] ++ fieldL p.pass))))))) := by show _ = _; unfold conX willL userL passL; rw [HCF.out, hW, hU, hP]; simp
    have l5 := HC.out.pass hP
    obtain ⟨m5, hm5⟩ : ∃ m, m4 ++ fieldL p.pass = m := ⟨_, rfl⟩
    have q5 : m5.length = (m4).length + (p.pass.length + 2) := by rw [← hm5, List.length_append]; try simp only [fieldL_len, wordL_len, List.length_cons, List.length_nil]
    try simp only [fieldL_len, wordL_len, List.length_cons, List.length_nil] at q5
    have had5 := fun W => add_str (P := Tryz.prog) W (m4) (fieldL p.pass) (by (try simp only [fieldL_len, wordL_len, List.length_cons, List.length_nil]); omega)
    rw [hm5] at had5
    have HM5 := Lib.hid hm5
    clear hm5
    go_wp2_with fail
    refine (refData_any p.pass _ l5).mono ?_
    rintro e w6 ⟨rfl, hb6⟩
    have hP1 := hHeld.more hb6
    clear hb6
    clear a1r a1f a1c a1l a1z
    have a1r := hP1.row; have a1f := hP1.free; have a1c := hP1.cell; have a1l := hP1.lt; have a1z := hP1.froz
    go_wp2_with fail
    go_ret
    exact ⟨by rw [HX.out, HE.out, ← HM5.out, ← HM4.out, ← HM3.out, ← HM2.out, ← HM1.out]; simp [toB], hP1.below⟩
  · have HE : Hid (conX p = fieldL [77, 81, 84, 84] ++ ([4] ++ ([toB cf] ++ (wordL p.keep ++ (fieldL p.client ++ ([] ++ (fieldL p.user ++ []))))))) := by show _ = _; unfold conX willL userL passL; rw [HCF.out, hW, hU, hP]; simp
    have l4 := val_len (HC.out.user hU)
    obtain ⟨m5, hm5⟩ : ∃ m, m4 ++ fieldL p.user = m := ⟨_, rfl⟩
    have q5 : m5.length = (m4).length + (p.user.length + 2) := by rw [← hm5, List.length_append]; try simp only [fieldL_len, wordL_len, List.length_cons, List.length_nil]
    try simp only [fieldL_len, wordL_len, List.length_cons, List.length_nil] at q5
    have had5 := fun W => add_str (P := Tryz.prog) W (m4) (fieldL p.user) (by (try simp only [fieldL_len, wordL_len, List.length_cons, List.length_nil]); omega)
    rw [hm5] at had5
    have HM5 := Lib.hid hm5
    clear hm5
    go_wp2_with fail
    refine (refData_any p.user _ l4).mono ?_
    rintro e w6 ⟨rfl, hb6⟩
    have hU1 := hHeld.more hb6
    clear hb6
    clear a1r a1f a1c a1l a1z
    have a1r := hU1.row; have a1f := hU1.free; have a1c := hU1.cell; have a1l := hU1.lt; have a1z := hU1.froz
    go_wp2_with fail
    go_ret
    exact ⟨by rw [HX.out, HE.out, ← HM5.out, ← HM4.out, ← HM3.out, ← HM2.out, ← HM1.out]; simp [toB], hU1.below⟩
  · have HE : Hid (conX p = fieldL [77, 81, 84, 84] ++ ([4] ++ ([toB cf] ++ (wordL p.keep ++ (fieldL p.client ++ ([] ++ (fieldL p.user ++ fieldL p.pass))))))) := by show _ = _; unfold conX willL userL passL; rw [HCF.out, hW, hU, hP]; simp
    have l4 := val_len (HC.out.user hU)
    have l5 := HC.out.pass hP
    obtain ⟨m5, hm5⟩ : ∃ m, m4 ++ fieldL p.user = m := ⟨_, rfl⟩
    have q5 : m5.length = (m4).length + (p.user.length + 2) := by rw [← hm5, List.length_append]; try simp only [fieldL_len, wordL_len, List.length_cons, List.length_nil]
    try simp only [fieldL_len, wordL_len, List.length_cons, List.length_nil] at q5
    have had5 := fun W => add_str (P := Tryz.prog) W (m4) (fieldL p.user) (by (try simp only [fieldL_len, wordL_len, List.length_cons, List.length_nil]); omega)
    rw [hm5] at had5
    have HM5 := Lib.hid hm5
    clear hm5
    go_wp2_with fail
    refine (refData_any p.user _ l4).mono ?_
    rintro e w6 ⟨rfl, hb6⟩
    have hU1 := hHeld.more hb6
    clear hb6
    clear a1r a1f a1c a1l a1z
    have a1r := hU1.row; have a1f := hU1.free; have a1c := hU1.cell; have a1l := hU1.lt; have a1z := hU1.froz
    obtain ⟨m6, hm6⟩ : ∃ m, m5 ++ fieldL p.pass = m := ⟨_, rfl⟩
    have q6 : m6.length = (m5).length + (p.pass.length + 2) := by rw [← hm6, List.length_append]; try simp only [fieldL_len, wordL_len, List.length_cons, List.length_nil]
    try simp only [fieldL_len, wordL_len, List.length_cons, List.length_nil] at q6
    have had6 := fun W => add_str (P := Tryz.prog) W (m5) (fieldL p.pass) (by (try simp only [fieldL_len, wordL_len, List.length_cons, List.length_nil]); omega)
    rw [hm6] at had6
    have HM6 := Lib.hid hm6
    clear hm6
    go_wp2_with fail
    refine (refData_any p.pass _ l5).mono ?_
    rintro e w6 ⟨rfl, hb6⟩
    have hP1 := hU1.more hb6
    clear hb6
    clear a1r a1f a1c a1l a1z
    have a1r := hP1.row; have a1f := hP1.free; have a1c := hP1.cell; have a1l := hP1.lt; have a1z := hP1.froz
    go_wp2_with fail
    go_ret
    exact ⟨by rw [HX.out, HE.out, ← HM6.out, ← HM5.out, ← HM4.out, ← HM3.out, ← HM2.out, ← HM1.out]; simp [toB], hP1.below⟩
  · have HE : Hid (conX p = fieldL [77, 81, 84, 84] ++ ([4] ++ ([toB cf] ++ (wordL p.keep ++ (fieldL p.client ++ ((fieldL p.wt ++ fieldL p.wl) ++ ([] ++ []))))))) := by show _ = _; unfold conX willL userL passL; rw [HCF.out, hW, hU, hP]; simp
    have l2 := val_len (HC.out.wt hW)
    have l3 := HC.out.wl hW
    obtain ⟨m5, hm5⟩ : ∃ m, m4 ++ fieldL p.wt = m := ⟨_, rfl⟩
    have q5 : m5.length = (m4).length + (p.wt.length + 2) := by rw [← hm5, List.length_append]; try simp only [fieldL_len, wordL_len, List.length_cons, List.length_nil]
    try simp only [fieldL_len, wordL_len, List.length_cons, List.length_nil] at q5
    have had5 := fun W => add_str (P := Tryz.prog) W (m4) (fieldL p.wt) (by (try simp only [fieldL_len, wordL_len, List.length_cons, List.length_nil]); omega)
    rw [hm5] at had5
    have HM5 := Lib.hid hm5
    clear hm5
    obtain ⟨m6, hm6⟩ : ∃ m, m5 ++ fieldL p.wl = m := ⟨_, rfl⟩
    have q6 : m6.length = (m5).length + (p.wl.length + 2) := by rw [← hm6, List.length_append]; try simp only [fieldL_len, wordL_len, List.length_cons, List.length_nil]
    try simp only [fieldL_len, wordL_len, List.length_cons, List.length_nil] at q6
    have had6 := fun W => add_str (P := Tryz.prog) W (m5) (fieldL p.wl) (by (try simp only [fieldL_len, wordL_len, List.length_cons, List.length_nil]); omega)
    rw [hm6] at had6
    have HM6 := Lib.hid hm6
    clear hm6
    go_upto_region 8 with fail
    refine wp_region_held_drew (S := Kp w [(w.heap.size, PkC p A n c, 27)]) (by kernel_rfl) hHeld.drew (fun hHeld => ?_)
    clear a1r a1f a1c a1l a1z
    generalize hwd : World.drew _ = we at hHeld ⊢
    clear hwd
    refine wpAnyH_take (i := 0) (oi := ({ dst := some 55, op := Go.Op.move (Go.Operand.tmp 3), type := 9, pos := "ref.go:50", after := #[], guard := none } : Oper)) (v := ?vw24) rfl (by kernel_rfl) (by kernel_rfl) (by kernel_rfl) (fun _ _ _ h => h) (Or.inl ⟨by rfl, ?hz24⟩) (by assumption) ?rs24
    case hz24 => (intro wz hSw; (try have hq1 := hSw.tail.cell); (try have hq2 := hSw.tail.tail.cell); (try have hq3 := hSw.cell); (try have hq4 := hSw.tail.row); (try have hq5 := hSw.tail.tail.row); (try have hq6 := hSw.row); (try have hq7 := hSw.tail.tail.tail.row); (try clear hSw); go_simp; all_goals with_reducible rfl)
    try simp only [Act.put, List.setIfInBounds_toArray, List.set_cons_zero, List.set_cons_succ]
    refine wpAnyH_take (i := 1) (oi := ({ dst := some 56, op := Go.Op.fieldAddr 27 (Go.Operand.tmp 1) 12, type := 0, pos := "ref.go:50", after := #[], guard := none } : Oper)) (v := ?vw25) rfl (by kernel_rfl) (by kernel_rfl) (by kernel_rfl) (fun _ _ _ h => h) (Or.inl ⟨by rfl, ?hz25⟩) (by assumption) ?rs25
    case hz25 => (intro wz hSw; (try have hq1 := hSw.tail.cell); (try have hq2 := hSw.tail.tail.cell); (try have hq3 := hSw.cell); (try have hq4 := hSw.tail.row); (try have hq5 := hSw.tail.tail.row); (try have hq6 := hSw.row); (try have hq7 := hSw.tail.tail.tail.row); (try clear hSw); go_simp; all_goals with_reducible rfl)
    try simp only [Act.put, List.setIfInBounds_toArray, List.set_cons_zero, List.set_cons_succ]
    refine wpAnyH_take (i := 2) (oi := ({ dst := some 57, op := Go.Op.fieldAddr 24 (Go.Operand.tmp 56) 0, type := 0, pos := "ref.go:50", after := #[{ on := 1, ground := Go.Ground.data }], guard := none } : Oper)) (v := ?vw26) rfl (by kernel_rfl) (by kernel_rfl) (by kernel_rfl) (fun _ _ _ h => h) (Or.inl ⟨by rfl, ?hz26⟩) (by assumption) ?rs26
    case hz26 => (intro wz hSw; (try have hq1 := hSw.tail.cell); (try have hq2 := hSw.tail.tail.cell); (try have hq3 := hSw.cell); (try have hq4 := hSw.tail.row); (try have hq5 := hSw.tail.tail.row); (try have hq6 := hSw.row); (try have hq7 := hSw.tail.tail.tail.row); (try clear hSw); go_simp; all_goals with_reducible rfl)
    try simp only [Act.put, List.setIfInBounds_toArray, List.set_cons_zero, List.set_cons_succ]
    refine wpAnyH_take (i := 3) (oi := ({ dst := some 58, op := Go.Op.load 9 (Go.Operand.tmp 57), type := 9, pos := "ref.go:50", after := #[{ on := 2, ground := Go.Ground.data }], guard := none } : Oper)) (v := ?vw27) rfl (by kernel_rfl) (by kernel_rfl) (by kernel_rfl) (fun _ _ _ h => h) (Or.inl ⟨by rfl, ?hz27⟩) (by assumption) ?rs27
    case hz27 => (intro wz hSw; (try have hq1 := hSw.tail.cell); (try have hq2 := hSw.tail.tail.cell); (try have hq3 := hSw.cell); (try have hq4 := hSw.tail.row); (try have hq5 := hSw.tail.tail.row); (try have hq6 := hSw.row); (try have hq7 := hSw.tail.tail.tail.row); (try clear hSw); go_simp; all_goals with_reducible rfl)
    try simp only [Act.put, List.setIfInBounds_toArray, List.set_cons_zero, List.set_cons_succ]
    refine wpAnyH_take (i := 6) (oi := ({ dst := some 61, op := Go.Op.fieldAddr 27 (Go.Operand.tmp 1) 12, type := 0, pos := "ref.go:50", after := #[], guard := none } : Oper)) (v := ?vw28) rfl (by kernel_rfl) (by kernel_rfl) (by kernel_rfl) (fun _ _ _ h => h) (Or.inl ⟨by rfl, ?hz28⟩) (by assumption) ?rs28
    case hz28 => (intro wz hSw; (try have hq1 := hSw.tail.cell); (try have hq2 := hSw.tail.tail.cell); (try have hq3 := hSw.cell); (try have hq4 := hSw.tail.row); (try have hq5 := hSw.tail.tail.row); (try have hq6 := hSw.row); (try have hq7 := hSw.tail.tail.tail.row); (try clear hSw); go_simp; all_goals with_reducible rfl)
    try simp only [Act.put, List.setIfInBounds_toArray, List.set_cons_zero, List.set_cons_succ]
    refine wpAnyH_take (i := 7) (oi := ({ dst := some 62, op := Go.Op.fieldAddr 24 (Go.Operand.tmp 61) 1, type := 0, pos := "ref.go:50", after := #[{ on := 6, ground := Go.Ground.data }], guard := none } : Oper)) (v := ?vw29) rfl (by kernel_rfl) (by kernel_rfl) (by kernel_rfl) (fun _ _ _ h => h) (Or.inl ⟨by rfl, ?hz29⟩) (by assumption) ?rs29
    case hz29 => (intro wz hSw; (try have hq1 := hSw.tail.cell); (try have hq2 := hSw.tail.tail.cell); (try have hq3 := hSw.cell); (try have hq4 := hSw.tail.row); (try have hq5 := hSw.tail.tail.row); (try have hq6 := hSw.row); (try have hq7 := hSw.tail.tail.tail.row); (try clear hSw); go_simp; all_goals with_reducible rfl)
    try simp only [Act.put, List.setIfInBounds_toArray, List.set_cons_zero, List.set_cons_succ]
    refine wpAnyH_take (i := 8) (oi := ({ dst := some 63, op := Go.Op.load 9 (Go.Operand.tmp 62), type := 9, pos := "ref.go:50", after := #[{ on := 7, ground := Go.Ground.data }], guard := none } : Oper)) (v := ?vw30) rfl (by kernel_rfl) (by kernel_rfl) (by kernel_rfl) (fun _ _ _ h => h) (Or.inl ⟨by rfl, ?hz30⟩) (by assumption) ?rs30
    case hz30 => (intro wz hSw; (try have hq1 := hSw.tail.cell); (try have hq2 := hSw.tail.tail.cell); (try have hq3 := hSw.cell); (try have hq4 := hSw.tail.row); (try have hq5 := hSw.tail.tail.row); (try have hq6 := hSw.row); (try have hq7 := hSw.tail.tail.tail.row); (try clear hSw); go_simp; all_goals with_reducible rfl)
    try simp only [Act.put, List.setIfInBounds_toArray, List.set_cons_zero, List.set_cons_succ]
    refine wpAnyH_ready (rs := [4]) (by kernel_rfl) (by simp) ?_
    refine (AllReadyH.cons (o := ({ dst := some 59, op := Go.Op.call { callee := Go.Callee.value (Go.Operand.func 36), args := #[Go.Operand.tmp 58], argTypes := #[9] }, type := 9, pos := "ref.go:50", after := #[{ on := 3, ground := Go.Ground.data }], guard := none } : Oper)) rfl (fun K hK => ?_) AllReadyH.nil)
    go_simp
    (go_at_call 36; refine (refData_any p.wt _ l2).mono ?_; rintro e w6 ⟨rfl, hb6⟩)
    refine hK.out _ _ (by first | exact hHeld.more hb6 | exact hHeld | exact ⟨_, hK9⟩ | exact below_more hHeld hb6) (fun hHeld1 => ?_)
    clear hHeld; have hHeld := hHeld1; clear hHeld1 hK K
    try simp only [Act.put, List.setIfInBounds_toArray, List.set_cons_zero, List.set_cons_succ]
    refine wpAnyH_take (i := 5) (oi := ({ dst := some 60, op := Go.Op.binOp Go.BinOp.add 9 (Go.Operand.tmp 55) (Go.Operand.tmp 59) 9, type := 9, pos := "ref.go:50", after := #[{ on := 0, ground := Go.Ground.data }, { on := 4, ground := Go.Ground.data }], guard := none } : Oper)) (v := ?vw31) rfl (by kernel_rfl) (by kernel_rfl) (by kernel_rfl) (fun _ _ _ h => h) (Or.inl ⟨by rfl, ?hz31⟩) (by assumption) ?rs31
    case hz31 => (intro wz hSw; (try have hq1 := hSw.tail.cell); (try have hq2 := hSw.tail.tail.cell); (try have hq3 := hSw.cell); (try have hq4 := hSw.tail.row); (try have hq5 := hSw.tail.tail.row); (try have hq6 := hSw.row); (try have hq7 := hSw.tail.tail.tail.row); (try clear hSw); go_simp; all_goals with_reducible rfl)
    try simp only [Act.put, List.setIfInBounds_toArray, List.set_cons_zero, List.set_cons_succ]
    refine wpAnyH_ready (rs := [9]) (by kernel_rfl) (by simp) ?_
    refine (AllReadyH.cons (o := ({ dst := some 64, op := Go.Op.call { callee := Go.Callee.value (Go.Operand.func 36), args := #[Go.Operand.tmp 63], argTypes := #[9] }, type := 9, pos := "ref.go:50", after := #[{ on := 8, ground := Go.Ground.data }, { on := 4, ground := Go.Ground.chain }], guard := none } : Oper)) rfl (fun K hK => ?_) AllReadyH.nil)
    go_simp
    (go_at_call 36; refine (refData_any p.wl _ l3).mono ?_; rintro e w6 ⟨rfl, hb6⟩)
    refine hK.out _ _ (by first | exact hHeld.more hb6 | exact hHeld | exact ⟨_, hK9⟩ | exact below_more hHeld hb6) (fun hHeld1 => ?_)
    clear hHeld; have hHeld := hHeld1; clear hHeld1 hK K
    try simp only [Act.put, List.setIfInBounds_toArray, List.set_cons_zero, List.set_cons_succ]
    refine wpAnyH_take (i := 10) (oi := ({ dst := some 65, op := Go.Op.binOp Go.BinOp.add 9 (Go.Operand.tmp 60) (Go.Operand.tmp 64) 9, type := 9, pos := "ref.go:50", after := #[{ on := 5, ground := Go.Ground.data }, { on := 9, ground := Go.Ground.data }], guard := none } : Oper)) (v := ?vw32) rfl (by kernel_rfl) (by kernel_rfl) (by kernel_rfl) (fun _ _ _ h => h) (Or.inl ⟨by rfl, ?hz32⟩) (by assumption) ?rs32
    case hz32 => (intro wz hSw; (try have hq1 := hSw.tail.cell); (try have hq2 := hSw.tail.tail.cell); (try have hq3 := hSw.cell); (try have hq4 := hSw.tail.row); (try have hq5 := hSw.tail.tail.row); (try have hq6 := hSw.row); (try have hq7 := hSw.tail.tail.tail.row); (try clear hSw); go_simp; all_goals with_reducible rfl)
    try simp only [Act.put, List.setIfInBounds_toArray, List.set_cons_zero, List.set_cons_succ]
    refine wpAnyH_take (i := 11) (oi := ({ dst := some 3, op := Go.Op.assign (Go.Operand.tmp 65), type := 9, pos := "ref.go:50", after := #[{ on := 10, ground := Go.Ground.data }, { on := 9, ground := Go.Ground.chain }, { on := 0, ground := Go.Ground.phase }, { on := 1, ground := Go.Ground.phase }, { on := 2, ground := Go.Ground.phase }, { on := 3, ground := Go.Ground.phase }, { on := 4, ground := Go.Ground.phase }, { on := 5, ground := Go.Ground.phase }, { on := 6, ground := Go.Ground.phase }, { on := 7, ground := Go.Ground.phase }, { on := 8, ground := Go.Ground.phase }, { on := 9, ground := Go.Ground.phase }, { on := 10, ground := Go.Ground.phase }], guard := none } : Oper)) (v := ?vw33) rfl (by kernel_rfl) (by kernel_rfl) (by kernel_rfl) (fun _ _ _ h => h) (Or.inl ⟨by rfl, ?hz33⟩) (by assumption) ?rs33
    case hz33 => (intro wz hSw; (try have hq1 := hSw.tail.cell); (try have hq2 := hSw.tail.tail.cell); (try have hq3 := hSw.cell); (try have hq4 := hSw.tail.row); (try have hq5 := hSw.tail.tail.row); (try have hq6 := hSw.row); (try have hq7 := hSw.tail.tail.tail.row); (try clear hSw); go_simp; all_goals with_reducible rfl)
    try simp only [Act.put, List.setIfInBounds_toArray, List.set_cons_zero, List.set_cons_succ]
    refine wpAnyH_done (by kernel_rfl) ?_ _
    have a1r := hHeld.row; have a1f := hHeld.free; have a1c := hHeld.cell; have a1l := hHeld.lt; have a1z := hHeld.froz
    go_wp2_with fail
    go_ret
    exact ⟨by rw [HX.out, HE.out, ← HM6.out, ← HM5.out, ← HM4.out, ← HM3.out, ← HM2.out, ← HM1.out]; simp [toB], hHeld.below⟩
  · have HE : Hid (conX p = fieldL [77, 81, 84, 84] ++ ([4] ++ ([toB cf] ++ (wordL p.keep ++ (fieldL p.client ++ ((fieldL p.wt ++ fieldL p.wl) ++ ([] ++ fieldL p.pass))))))) := by show _ = _; unfold conX willL userL passL; rw [HCF.out, hW, hU, hP]; simp
    have l2 := val_len (HC.out.wt hW)
    have l3 := HC.out.wl hW
    have l5 := HC.out.pass hP
    obtain ⟨m5, hm5⟩ : ∃ m, m4 ++ fieldL p.wt = m := ⟨_, rfl⟩
    have q5 : m5.length = (m4).length + (p.wt.length + 2) := by rw [← hm5, List.length_append]; try simp only [fieldL_len, wordL_len, List.length_cons, List.length_nil]
    try simp only [fieldL_len, wordL_len, List.length_cons, List.length_nil] at q5
    have had5 := fun W => add_str (P := Tryz.prog) W (m4) (fieldL p.wt) (by (try simp only [fieldL_len, wordL_len, List.length_cons, List.length_nil]); omega)
    rw [hm5] at had5
    have HM5 := Lib.hid hm5
    clear hm5
    obtain ⟨m6, hm6⟩ : ∃ m, m5 ++ fieldL p.wl = m := ⟨_, rfl⟩
    have q6 : m6.length = (m5).length + (p.wl.length + 2) := by rw [← hm6, List.length_append]; try simp only [fieldL_len, wordL_len, List.length_cons, List.length_nil]
    try simp only [fieldL_len, wordL_len, List.length_cons, List.length_nil] at q6
    have had6 := fun W => add_str (P := Tryz.prog) W (m5) (fieldL p.wl) (by (try simp only [fieldL_len, wordL_len, List.length_cons, List.length_nil]); omega)
    rw [hm6] at had6
    have HM6 := Lib.hid hm6
    clear hm6
    go_upto_region 8 with fail
    refine wp_region_held_drew (S := Kp w [(w.heap.size, PkC p A n c, 27)]) (by kernel_rfl) hHeld.drew (fun hHeld => ?_)
    clear a1r a1f a1c a1l a1z
    generalize hwd : World.drew _ = we at hHeld ⊢
    clear hwd
    refine wpAnyH_take (i := 0) (oi := ({ dst := some 55, op := Go.Op.move (Go.Operand.tmp 3), type := 9, pos := "ref.go:50", after := #[], guard := none } : Oper)) (v := ?vw34) rfl (by kernel_rfl) (by kernel_rfl) (by kernel_rfl) (fun _ _ _ h => h) (Or.inl ⟨by rfl, ?hz34⟩) (by assumption) ?rs34
    case hz34 => (intro wz hSw; (try have hq1 := hSw.tail.cell); (try have hq2 := hSw.tail.tail.cell); (try have hq3 := hSw.cell); (try have hq4 := hSw.tail.row); (try have hq5 := hSw.tail.tail.row); (try have hq6 := hSw.row); (try have hq7 := hSw.tail.tail.tail.row); (try clear hSw); go_simp; all_goals with_reducible rfl)
    try simp only [Act.put, List.setIfInBounds_toArray, List.set_cons_zero, List.set_cons_succ]
    refine wpAnyH_take (i := 1) (oi := ({ dst := some 56, op := Go.Op.fieldAddr 27 (Go.Operand.tmp 1) 12, type := 0, pos := "ref.go:50", after := #[], guard := none } : Oper)) (v := ?vw35) rfl (by kernel_rfl) (by kernel_rfl) (by kernel_rfl) (fun _ _ _ h => h) (Or.inl ⟨by rfl, ?hz35⟩) (by assumption) ?rs35
    case hz35 => (intro wz hSw; (try have hq1 := hSw.tail.cell); (try have hq2 := hSw.tail.tail.cell); (try have hq3 := hSw.cell); (try have hq4 := hSw.tail.row); (try have hq5 := hSw.tail.tail.row); (try have hq6 := hSw.row); (try have hq7 := hSw.tail.tail.tail.row); (try clear hSw); go_simp; all_goals with_reducible rfl)
    try simp only [Act.put, List.setIfInBounds_toArray, List.set_cons_zero, List.set_cons_succ]
    refine wpAnyH_take (i := 2) (oi := ({ dst := some 57, op := Go.Op.fieldAddr 24 (Go.Operand.tmp 56) 0, type := 0, pos := "ref.go:50", after := #[{ on := 1, ground := Go.Ground.data }], guard := none } : Oper)) (v := ?vw36) rfl (by kernel_rfl) (by kernel_rfl) (by kernel_rfl) (fun _ _ _ h => h) (Or.inl ⟨by rfl, ?hz36⟩) (by assumption) ?rs36
    case hz36 => (intro wz hSw; (try have hq1 := hSw.tail.cell); (try have hq2 := hSw.tail.tail.cell); (try have hq3 := hSw.cell); (try have hq4 := hSw.tail.row); (try have hq5 := hSw.tail.tail.row); (try have hq6 := hSw.row); (try have hq7 := hSw.tail.tail.tail.row); (try clear hSw); go_simp; all_goals with_reducible rfl)
    try simp only [Act.put, List.setIfInBounds_toArray, List.set_cons_zero, List.set_cons_succ]
    refine wpAnyH_take (i := 3) (oi := ({ dst := some 58, op := Go.Op.load 9 (Go.Operand.tmp 57), type := 9, pos := "ref.go:50", after := #[{ on := 2, ground := Go.Ground.data }], guard := none } : Oper)) (v := ?vw37) rfl (by kernel_rfl) (by kernel_rfl) (by kernel_rfl) (fun _ _ _ h => h) (Or.inl ⟨by rfl, ?hz37⟩) (by assumption) ?rs37
    case hz37 => (intro wz hSw; (try have hq1 := hSw.tail.cell); (try have hq2 := hSw.tail.tail.cell); (try have hq3 := hSw.cell); (try have hq4 := hSw.tail.row); (try have hq5 := hSw.tail.tail.row); (try have hq6 := hSw.row); (try have hq7 := hSw.tail.tail.tail.row); (try clear hSw); go_simp; all_goals with_reducible rfl)
    try simp only [Act.put, List.setIfInBounds_toArray, List.set_cons_zero, List.set_cons_succ]
    refine wpAnyH_take (i := 6) (oi := ({ dst := some 61, op := Go.Op.fieldAddr 27 (Go.Operand.tmp 1) 12, type := 0, pos := "ref.go:50", after := #[], guard := none } : Oper)) (v := ?vw38) rfl (by kernel_rfl) (by kernel_rfl) (by kernel_rfl) (fun _ _ _ h => h) (Or.inl ⟨by rfl, ?hz38⟩) (by assumption) ?rs38
    case hz38 => (intro wz hSw; (try have hq1 := hSw.tail.cell); (try have hq2 := hSw.tail.tail.cell); (try have hq3 := hSw.cell); (try have hq4 := hSw.tail.row); (try have hq5 := hSw.tail.tail.row); (try have hq6 := hSw.row); (try have hq7 := hSw.tail.tail.tail.row); (try clear hSw); go_simp; all_goals with_reducible rfl)
    try simp only [Act.put, List.setIfInBounds_toArray, List.set_cons_zero, List.set_cons_succ]
    refine wpAnyH_take (i := 7) (oi := ({ dst := some 62, op := Go.Op.fieldAddr 24 (Go.Operand.tmp 61) 1, type := 0, pos := "ref.go:50", after := #[{ on := 6, ground := Go.Ground.data }], guard := none } : Oper)) (v := ?vw39) rfl (by kernel_rfl) (by kernel_rfl) (by kernel_rfl) (fun _ _ _ h => h) (Or.inl ⟨by rfl, ?hz39⟩) (by assumption) ?rs39
    case hz39 => (intro wz hSw; (try have hq1 := hSw.tail.cell); (try have hq2 := hSw.tail.tail.cell); (try have hq3 := hSw.cell); (try have hq4 := hSw.tail.row); (try have hq5 := hSw.tail.tail.row); (try have hq6 := hSw.row); (try have hq7 := hSw.tail.tail.tail.row); (try clear hSw); go_simp; all_goals with_reducible rfl)
    try simp only [Act.put, List.setIfInBounds_toArray, List.set_cons_zero, List.set_cons_succ]
    refine wpAnyH_take (i := 8) (oi := ({ dst := some 63, op := Go.Op.load 9 (Go.Operand.tmp 62), type := 9, pos := "ref.go:50", after := #[{ on := 7, ground := Go.Ground.data }], guard := none } : Oper)) (v := ?vw40) rfl (by kernel_rfl) (by kernel_rfl) (by kernel_rfl) (fun _ _ _ h => h) (Or.inl ⟨by rfl, ?hz40⟩) (by assumption) ?rs40
    case hz40 => (intro wz hSw; (try have hq1 := hSw.tail.cell); (try have hq2 := hSw.tail.tail.cell); (try have hq3 := hSw.cell); (try have hq4 := hSw.tail.row); (try have hq5 := hSw.tail.tail.row); (try have hq6 := hSw.row); (try have hq7 := hSw.tail.tail.tail.row); (try clear hSw); go_simp; all_goals with_reducible rfl)
    try simp only [Act.put, List.setIfInBounds_toArray, List.set_cons_zero, List.set_cons_succ]
    refine wpAnyH_ready (rs := [4]) (by kernel_rfl) (by simp) ?_
    refine (AllReadyH.cons (o := ({ dst := some 59, op := Go.Op.call { callee := Go.Callee.value (Go.Operand.func 36), args := #[Go.Operand.tmp 58], argTypes := #[9] }, type := 9, pos := "ref.go:50", after := #[{ on := 3, ground := Go.Ground.data }], guard := none } : Oper)) rfl (fun K hK => ?_) AllReadyH.nil)
    go_simp
    (go_at_call 36; refine (refData_any p.wt _ l2).mono ?_; rintro e w6 ⟨rfl, hb6⟩)
    refine hK.out _ _ (by first | exact hHeld.more hb6 | exact hHeld | exact ⟨_, hK9⟩ | exact below_more hHeld hb6) (fun hHeld1 => ?_)
    clear hHeld; have hHeld := hHeld1; clear hHeld1 hK K
    try simp only [Act.put, List.setIfInBounds_toArray, List.set_cons_zero, List.set_cons_succ]
    refine wpAnyH_take (i := 5) (oi := ({ dst := some 60, op := Go.Op.binOp Go.BinOp.add 9 (Go.Operand.tmp 55) (Go.Operand.tmp 59) 9, type := 9, pos := "ref.go:50", after := #[{ on := 0, ground := Go.Ground.data }, { on := 4, ground := Go.Ground.data }], guard := none } : Oper)) (v := ?vw41) rfl (by kernel_rfl) (by kernel_rfl) (by kernel_rfl) (fun _ _ _ h => h) (Or.inl ⟨by rfl, ?hz41⟩) (by assumption) ?rs41
    case hz41 => (intro wz hSw; (try have hq1 := hSw.tail.cell); (try have hq2 := hSw.tail.tail.cell); (try have hq3 := hSw.cell); (try have hq4 := hSw.tail.row); (try have hq5 := hSw.tail.tail.row); (try have hq6 := hSw.row); (try have hq7 := hSw.tail.tail.tail.row); (try clear hSw); go_simp; all_goals with_reducible rfl)
    try simp only [Act.put, List.setIfInBounds_toArray, List.set_cons_zero, List.set_cons_succ]
    refine wpAnyH_ready (rs := [9]) (by kernel_rfl) (by simp) ?_
    refine (AllReadyH.cons (o := ({ dst := some 64, op := Go.Op.call { callee := Go.Callee.value (Go.Operand.func 36), args := #[Go.Operand.tmp 63], argTypes := #[9] }, type := 9, pos := "ref.go:50", after := #[{ on := 8, ground := Go.Ground.data }, { on := 4, ground := Go.Ground.chain }], guard := none } : Oper)) rfl (fun K hK => ?_) AllReadyH.nil)
    go_simp
    (go_at_call 36; refine (refData_any p.wl _ l3).mono ?_; rintro e w6 ⟨rfl, hb6⟩)
    refine hK.out _ _ (by first | exact hHeld.more hb6 | exact hHeld | exact ⟨_, hK9⟩ | exact below_more hHeld hb6) (fun hHeld1 => ?_)
    clear hHeld; have hHeld := hHeld1; clear hHeld1 hK K
    try simp only [Act.put, List.setIfInBounds_toArray, List.set_cons_zero, List.set_cons_succ]
    refine wpAnyH_take (i := 10) (oi := ({ dst := some 65, op := Go.Op.binOp Go.BinOp.add 9 (Go.Operand.tmp 60) (Go.Operand.tmp 64) 9, type := 9, pos := "ref.go:50", after := #[{ on := 5, ground := Go.Ground.data }, { on := 9, ground := Go.Ground.data }], guard := none } : Oper)) (v := ?vw42) rfl (by kernel_rfl) (by kernel_rfl) (by kernel_rfl) (fun _ _ _ h => h) (Or.inl ⟨by rfl, ?hz42⟩) (by assumption) ?rs42
    case hz42 => (intro wz hSw; (try have hq1 := hSw.tail.cell); (try have hq2 := hSw.tail.tail.cell); (try have hq3 := hSw.cell); (try have hq4 := hSw.tail.row); (try have hq5 := hSw.tail.tail.row); (try have hq6 := hSw.row); (try have hq7 := hSw.tail.tail.tail.row); (try clear hSw); go_simp; all_goals with_reducible rfl)
    try simp only [Act.put, List.setIfInBounds_toArray, List.set_cons_zero, List.set_cons_succ]
    refine wpAnyH_take (i := 11) (oi := ({ dst := some 3, op := Go.Op.assign (Go.Operand.tmp 65), type := 9, pos := "ref.go:50", after := #[{ on := 10, ground := Go.Ground.data }, { on := 9, ground := Go.Ground.chain }, { on := 0, ground := Go.Ground.phase }, { on := 1, ground := Go.Ground.phase }, { on := 2, ground := Go.Ground.phase }, { on := 3, ground := Go.Ground.phase }, { on := 4, ground := Go.Ground.phase }, { on := 5, ground := Go.Ground.phase }, { on := 6, ground := Go.Ground.phase }, { on := 7, ground := Go.Ground.phase }, { on := 8, ground := Go.Ground.phase }, { on := 9, ground := Go.Ground.phase }, { on := 10, ground := Go.Ground.phase }], guard := none } : Oper)) (v := ?vw43) rfl (by kernel_rfl) (by kernel_rfl) (by kernel_rfl) (fun _ _ _ h => h) (Or.inl ⟨by rfl, ?hz43⟩) (by assumption) ?rs43
    case hz43 => (intro wz hSw; (try have hq1 := hSw.tail.cell); (try have hq2 := hSw.tail.tail.cell); (try have hq3 := hSw.cell); (try have hq4 := hSw.tail.row); (try have hq5 := hSw.tail.tail.row); (try have hq6 := hSw.row); (try have hq7 := hSw.tail.tail.tail.row); (try clear hSw); go_simp; all_goals with_reducible rfl)
    try simp only [Act.put, List.setIfInBounds_toArray, List.set_cons_zero, List.set_cons_succ]
    refine wpAnyH_done (by kernel_rfl) ?_ _
    have a1r := hHeld.row; have a1f := hHeld.free; have a1c := hHeld.cell; have a1l := hHeld.lt; have a1z := hHeld.froz
    obtain ⟨m7, hm7⟩ : ∃ m, m6 ++ fieldL p.pass = m := ⟨_, rfl⟩
    have q7 : m7.length = (m6).length + (p.pass.length + 2) := by rw [← hm7, List.length_append]; try simp only [fieldL_len, wordL_len, List.length_cons, List.length_nil]
    try simp only [fieldL_len, wordL_len, List.length_cons, List.length_nil] at q7
    have had7 := fun W => add_str (P := Tryz.prog) W (m6) (fieldL p.pass) (by (try simp only [fieldL_len, wordL_len, List.length_cons, List.length_nil]); omega)
    rw [hm7] at had7
    have HM7 := Lib.hid hm7
    clear hm7
    go_wp2_with fail
    refine (refData_any p.pass _ l5).mono ?_
    rintro e w6 ⟨rfl, hb6⟩
    have hP1 := hHeld.more hb6
    clear hb6
    clear a1r a1f a1c a1l a1z
    have a1r := hP1.row; have a1f := hP1.free; have a1c := hP1.cell; have a1l := hP1.lt; have a1z := hP1.froz
    go_wp2_with fail
    go_ret
    exact ⟨by rw [HX.out, HE.out, ← HM7.out, ← HM6.out, ← HM5.out, ← HM4.out, ← HM3.out, ← HM2.out, ← HM1.out]; simp [toB], hP1.below⟩
  · have HE : Hid (conX p = fieldL [77, 81, 84, 84] ++ ([4] ++ ([toB cf] ++ (wordL p.keep ++ (fieldL p.client ++ ((fieldL p.wt ++ fieldL p.wl) ++ (fieldL p.user ++ []))))))) := by show _ = _; unfold conX willL userL passL; rw [HCF.out, hW, hU, hP]; simp
    have l2 := val_len (HC.out.wt hW)
    have l3 := HC.out.wl hW
    have l4 := val_len (HC.out.user hU)
    obtain ⟨m5, hm5⟩ : ∃ m, m4 ++ fieldL p.wt = m := ⟨_, rfl⟩
    have q5 : m5.length = (m4).length + (p.wt.length + 2) := by rw [← hm5, List.length_append]; try simp only [fieldL_len, wordL_len, List.length_cons, List.length_nil]
    try simp only [fieldL_len, wordL_len, List.length_cons, List.length_nil] at q5
    have had5 := fun W => add_str (P := Tryz.prog) W (m4) (fieldL p.wt) (by (try simp only [fieldL_len, wordL_len, List.length_cons, List.length_nil]); omega)
    rw [hm5] at had5
    have HM5 := Lib.hid hm5
    clear hm5
    obtain ⟨m6, hm6⟩ : ∃ m, m5 ++ fieldL p.wl = m := ⟨_, rfl⟩
    have q6 : m6.length = (m5).length + (p.wl.length + 2) := by rw [← hm6, List.length_append]; try simp only [fieldL_len, wordL_len, List.length_cons, List.length_nil]
    try simp only [fieldL_len, wordL_len, List.length_cons, List.length_nil] at q6
    have had6 := fun W => add_str (P := Tryz.prog) W (m5) (fieldL p.wl) (by (try simp only [fieldL_len, wordL_len, List.length_cons, List.length_nil]); omega)
    rw [hm6] at had6
    have HM6 := Lib.hid hm6
    clear hm6
    go_upto_region 8 with fail
    refine wp_region_held_drew (S := Kp w [(w.heap.size, PkC p A n c, 27)]) (by kernel_rfl) hHeld.drew (fun hHeld => ?_)
    clear a1r a1f a1c a1l a1z
    generalize hwd : World.drew _ = we at hHeld ⊢
    clear hwd
    refine wpAnyH_take (i := 0) (oi := ({ dst := some 55, op := Go.Op.move (Go.Operand.tmp 3), type := 9, pos := "ref.go:50", after := #[], guard := none } : Oper)) (v := ?vw44) rfl (by kernel_rfl) (by kernel_rfl) (by kernel_rfl) (fun _ _ _ h => h) (Or.inl ⟨by rfl, ?hz44⟩) (by assumption) ?rs44
    case hz44 => (intro wz hSw; (try have hq1 := hSw.tail.cell); (try have hq2 := hSw.tail.tail.cell); (try have hq3 := hSw.cell); (try have hq4 := hSw.tail.row); (try have hq5 := hSw.tail.tail.row); (try have hq6 := hSw.row); (try have hq7 := hSw.tail.tail.tail.row); (try clear hSw); go_simp; all_goals with_reducible rfl)
    try simp only [Act.put, List.setIfInBounds_toArray, List.set_cons_zero, List.set_cons_succ]
    refine wpAnyH_take (i := 1) (oi := ({ dst := some 56, op := Go.Op.fieldAddr 27 (Go.Operand.tmp 1) 12, type := 0, pos := "ref.go:50", after := #[], guard := none } : Oper)) (v := ?vw45) rfl (by kernel_rfl) (by kernel_rfl) (by kernel_rfl) (fun _ _ _ h => h) (Or.inl ⟨by rfl, ?hz45⟩) (by assumption) ?rs45
    case hz45 => (intro wz hSw; (try have hq1 := hSw.tail.cell); (try have hq2 := hSw.tail.tail.cell); (try have hq3 := hSw.cell); (try have hq4 := hSw.tail.row); (try have hq5 := hSw.tail.tail.row); (try have hq6 := hSw.row); (try have hq7 := hSw.tail.tail.tail.row); (try clear hSw); go_simp; all_goals with_reducible rfl)
    try simp only [Act.put, List.setIfInBounds_toArray, List.set_cons_zero, List.set_cons_succ]
    refine wpAnyH_take (i := 2) (oi := ({ dst := some 57, op := Go.Op.fieldAddr 24 (Go.Operand.tmp 56) 0, type := 0, pos := "ref.go:50", after := #[{ on := 1, ground := Go.Ground.data }], guard := none } : Oper)) (v := ?vw46) rfl (by kernel_rfl) (by kernel_rfl) (by kernel_rfl) (fun _ _ _ h => h) (Or.inl ⟨by rfl, ?hz46⟩) (by assumption) ?rs46
    case hz46 => (intro wz hSw; (try have hq1 := hSw.tail.cell); (try have hq2 := hSw.tail.tail.cell); (try have hq3 := hSw.cell); (try have hq4 := hSw.tail.row); (try have hq5 := hSw.tail.tail.row); (try have hq6 := hSw.row); (try have hq7 := hSw.tail.tail.tail.row); (try clear hSw); go_simp; all_goals with_reducible rfl)
    try simp only [Act.put, List.setIfInBounds_toArray, List.set_cons_zero, List.set_cons_succ]
    refine wpAnyH_take (i := 3) (oi := ({ dst := some 58, op := Go.Op.load 9 (Go.Operand.tmp 57), type := 9, pos := "ref.go:50", after := #[{ on := 2, ground := Go.Ground.data }], guard := none } : Oper)) (v := ?vw47) rfl (by kernel_rfl) (by kernel_rfl) (by kernel_rfl) (fun _ _ _ h => h) (Or.inl ⟨by rfl, ?hz47⟩) (by assumption) ?rs47
    case hz47 => (intro wz hSw; (try have hq1 := hSw.tail.cell); (try have hq2 := hSw.tail.tail.cell); (try have hq3 := hSw.cell); (try have hq4 := hSw.tail.row); (try have hq5 := hSw.tail.tail.row); (try have hq6 := hSw.row); (try have hq7 := hSw.tail.tail.tail.row); (try clear hSw); go_simp; all_goals with_reducible rfl)
    try simp only [Act.put, List.setIfInBounds_toArray, List.set_cons_zero, List.set_cons_succ]
    refine wpAnyH_take (i := 6) (oi := ({ dst := some 61, op := Go.Op.fieldAddr 27 (Go.Operand.tmp 1) 12, type := 0, pos := "ref.go:50", after := #[], guard := none } : Oper)) (v := ?vw48) rfl (by kernel_rfl) (by kernel_rfl) (by kernel_rfl) (fun _ _ _ h => h) (Or.inl ⟨by rfl, ?hz48⟩) (by assumption) ?rs48
    case hz48 => (intro wz hSw; (try have hq1 := hSw.tail.cell); (try have hq2 := hSw.tail.tail.cell); (try have hq3 := hSw.cell); (try have hq4 := hSw.tail.row); (try have hq5 := hSw.tail.tail.row); (try have hq6 := hSw.row); (try have hq7 := hSw.tail.tail.tail.row); (try clear hSw); go_simp; all_goals with_reducible rfl)
    try simp only [Act.put, List.setIfInBounds_toArray, List.set_cons_zero, List.set_cons_succ]
    refine wpAnyH_take (i := 7) (oi := ({ dst := some 62, op := Go.Op.fieldAddr 24 (Go.Operand.tmp 61) 1, type := 0, pos := "ref.go:50", after := #[{ on := 6, ground := Go.Ground.data }], guard := none } : Oper)) (v := ?vw49) rfl (by kernel_rfl) (by kernel_rfl) (by kernel_rfl) (fun _ _ _ h => h) (Or.inl ⟨by rfl, ?hz49⟩) (by assumption) ?rs49
    case hz49 => (intro wz hSw; (try have hq1 := hSw.tail.cell); (try have hq2 := hSw.tail.tail.cell); (try have hq3 := hSw.cell); (try have hq4 := hSw.tail.row); (try have hq5 := hSw.tail.tail.row); (try have hq6 := hSw.row); (try have hq7 := hSw.tail.tail.tail.row); (try clear hSw); go_simp; all_goals with_reducible rfl)
    try simp only [Act.put, List.setIfInBounds_toArray, List.set_cons_zero, List.set_cons_succ]
    refine wpAnyH_take (i := 8) (oi := ({ dst := some 63, op := Go.Op.load 9 (Go.Operand.tmp 62), type := 9, pos := "ref.go:50", after := #[{ on := 7, ground := Go.Ground.data }], guard := none } : Oper)) (v := ?vw50) rfl (by kernel_rfl) (by kernel_rfl) (by kernel_rfl) (fun _ _ _ h => h) (Or.inl ⟨by rfl, ?hz50⟩) (by assumption) ?rs50
    case hz50 => (intro wz hSw; (try have hq1 := hSw.tail.cell); (try have hq2 := hSw.tail.tail.cell); (try have hq3 := hSw.cell); (try have hq4 := hSw.tail.row); (try have hq5 := hSw.tail.tail.row); (try have hq6 := hSw.row); (try have hq7 := hSw.tail.tail.tail.row); (try clear hSw); go_simp; all_goals with_reducible rfl)
    try simp only [Act.put, List.setIfInBounds_toArray, List.set_cons_zero, List.set_cons_succ]
    refine wpAnyH_ready (rs := [4]) (by kernel_rfl) (by simp) ?_
    refine (AllReadyH.cons (o := ({ dst := some 59, op := Go.Op.call { callee := Go.Callee.value (Go.Operand.func 36), args := #[Go.Operand.tmp 58], argTypes := #[9] }, type := 9, pos := "ref.go:50", after := #[{ on := 3, ground := Go.Ground.data }], guard := none } : Oper)) rfl (fun K hK => ?_) AllReadyH.nil)
    go_simp
    (go_at_call 36; refine (refData_any p.wt _ l2).mono ?_; rintro e w6 ⟨rfl, hb6⟩)
    refine hK.out _ _ (by first | exact hHeld.more hb6 | exact hHeld | exact ⟨_, hK9⟩ | exact below_more hHeld hb6) (fun hHeld1 => ?_)
    clear hHeld; have hHeld := hHeld1; clear hHeld1 hK K
    try simp only [Act.put, List.setIfInBounds_toArray, List.set_cons_zero, List.set_cons_succ]
    refine wpAnyH_take (i := 5) (oi := ({ dst := some 60, op := Go.Op.binOp Go.BinOp.add 9 (Go.Operand.tmp 55) (Go.Operand.tmp 59) 9, type := 9, pos := "ref.go:50", after := #[{ on := 0, ground := Go.Ground.data }, { on := 4, ground := Go.Ground.data }], guard := none } : Oper)) (v := ?vw51) rfl (by kernel_rfl) (by kernel_rfl) (by kernel_rfl) (fun _ _ _ h => h) (Or.inl ⟨by rfl, ?hz51⟩) (by assumption) ?rs51
    case hz51 => (intro wz hSw; (try have hq1 := hSw.tail.cell); (try have hq2 := hSw.tail.tail.cell); (try have hq3 := hSw.cell); (try have hq4 := hSw.tail.row); (try have hq5 := hSw.tail.tail.row); (try have hq6 := hSw.row); (try have hq7 := hSw.tail.tail.tail.row); (try clear hSw); go_simp; all_goals with_reducible rfl)
    try simp only [Act.put, List.setIfInBounds_toArray, List.set_cons_zero, List.set_cons_succ]
    refine wpAnyH_ready (rs := [9]) (by kernel_rfl) (by simp) ?_
    refine (AllReadyH.cons (o := ({ dst := some 64, op := Go.Op.call { callee := Go.Callee.value (Go.Operand.func 36), args := #[Go.Operand.tmp 63], argTypes := #[9] }, type := 9, pos := "ref.go:50", after := #[{ on := 8, ground := Go.Ground.data }, { on := 4, ground := Go.Ground.chain }], guard := none } : Oper)) rfl (fun K hK => ?_) AllReadyH.nil)
    go_simp
    (go_at_call 36; refine (refData_any p.wl _ l3).mono ?_; rintro e w6 ⟨rfl, hb6⟩)
    refine hK.out _ _ (by first | exact hHeld.more hb6 | exact hHeld | exact ⟨_, hK9⟩ | exact below_more hHeld hb6) (fun hHeld1 => ?_)
    clear hHeld; have hHeld := hHeld1; clear hHeld1 hK K
    try simp only [Act.put, List.setIfInBounds_toArray, List.set_cons_zero, List.set_cons_succ]
    refine wpAnyH_take (i := 10) (oi := ({ dst := some 65, op := Go.Op.binOp Go.BinOp.add 9 (Go.Operand.tmp 60) (Go.Operand.tmp 64) 9, type := 9, pos := "ref.go:50", after := #[{ on := 5, ground := Go.Ground.data }, { on := 9, ground := Go.Ground.data }], guard := none } : Oper)) (v := ?vw52) rfl (by kernel_rfl) (by kernel_rfl) (by kernel_rfl) (fun _ _ _ h => h) (Or.inl ⟨by rfl, ?hz52⟩) (by assumption) ?rs52
    case hz52 => (intro wz hSw; (try have hq1 := hSw.tail.cell); (try have hq2 := hSw.tail.tail.cell); (try have hq3 := hSw.cell); (try have hq4 := hSw.tail.row); (try have hq5 := hSw.tail.tail.row); (try have hq6 := hSw.row); (try have hq7 := hSw.tail.tail.tail.row); (try clear hSw); go_simp; all_goals with_reducible rfl)
    try simp only [Act.put, List.setIfInBounds_toArray, List.set_cons_zero, List.set_cons_succ]
    refine wpAnyH_take (i := 11) (oi := ({ dst := some 3, op := Go.Op.assign (Go.Operand.tmp 65), type := 9, pos := "ref.go:50", after := #[{ on := 10, ground := Go.Ground.data }, { on := 9, ground := Go.Ground.chain }, { on := 0, ground := Go.Ground.phase }, { on := 1, ground := Go.Ground.phase }, { on := 2, ground := Go.Ground.phase }, { on := 3, ground := Go.Ground.phase }, { on := 4, ground := Go.Ground.phase }, { on := 5, ground := Go.Ground.phase }, { on := 6, ground := Go.Ground.phase }, { on := 7, ground := Go.Ground.phase }, { on := 8, ground := Go.Ground.phase }, { on := 9, ground := Go.Ground.phase }, { on := 10, ground := Go.Ground.phase }], guard := none } : Oper)) (v := ?vw53) rfl (by kernel_rfl) (by kernel_rfl) (by kernel_rfl) (fun _ _ _ h => h) (Or.inl ⟨by rfl, ?hz53⟩) (by assumption) ?rs53
    case hz53 => (intro wz hSw; (try have hq1 := hSw.tail.cell); (try have hq2 := hSw.tail.tail.cell); (try have hq3 := hSw.cell); (try have hq4 := hSw.tail.row); (try have hq5 := hSw.tail.tail.row); (try have hq6 := hSw.row); (try have hq7 := hSw.tail.tail.tail.row); (try clear hSw); go_simp; all_goals with_reducible rfl)
    try simp only [Act.put, List.setIfInBounds_toArray, List.set_cons_zero, List.set_cons_succ]
    refine wpAnyH_done (by kernel_rfl) ?_ _
    have a1r := hHeld.row; have a1f := hHeld.free; have a1c := hHeld.cell; have a1l := hHeld.lt; have a1z := hHeld.froz
    obtain ⟨m7, hm7⟩ : ∃ m, m6 ++ fieldL p.user = m := ⟨_, rfl⟩
    have q7 : m7.length = (m6).length + (p.user.length + 2) := by rw [← hm7, List.length_append]; try simp only [fieldL_len, wordL_len, List.length_cons, List.length_nil]
    try simp only [fieldL_len, wordL_len, List.length_cons, List.length_nil] at q7
    have had7 := fun W => add_str (P := Tryz.prog) W (m6) (fieldL p.user) (by (try simp only [fieldL_len, wordL_len, List.length_cons, List.length_nil]); omega)
    rw [hm7] at had7
    have HM7 := Lib.hid hm7
    clear hm7
    go_wp2_with fail
    refine (refData_any p.user _ l4).mono ?_
    rintro e w6 ⟨rfl, hb6⟩
    have hU1 := hHeld.more hb6
    clear hb6
    clear a1r a1f a1c a1l a1z
    have a1r := hU1.row; have a1f := hU1.free; have a1c := hU1.cell; have a1l := hU1.lt; have a1z := hU1.froz
    go_wp2_with fail
    go_ret
    exact ⟨by rw [HX.out, HE.out, ← HM7.out, ← HM6.out, ← HM5.out, ← HM4.out, ← HM3.out, ← HM2.out, ← HM1.out]; simp [toB], hU1.below⟩
  · have HE : Hid (conX p = fieldL [77, 81, 84, 84] ++ ([4] ++ ([toB cf] ++ (wordL p.keep ++ (fieldL p.client ++ ((fieldL p.wt ++ fieldL p.wl) ++ (fieldL p.user ++ fieldL p.pass))))))) := by show _ = _; unfold conX willL userL passL; rw [HCF.out, hW, hU, hP]; simp
    have l2 := val_len (HC.out.wt hW)
    have l3 := HC.out.wl hW
    have l4 := val_len (HC.out.user hU)
    have l5 := HC.out.pass hP
    obtain ⟨m5, hm5⟩ : ∃ m, m4 ++ fieldL p.wt = m := ⟨_, rfl⟩
    have q5 : m5.length = (m4).length + (p.wt.length + 2) := by rw [← hm5, List.length_append]; try simp only [fieldL_len, wordL_len, List.length_cons, List.length_nil]
    try simp only [fieldL_len, wordL_len, List.length_cons, List.length_nil] at q5
    have had5 := fun W => add_str (P := Tryz.prog) W (m4) (fieldL p.wt) (by (try simp only [fieldL_len, wordL_len, List.length_cons, List.length_nil]); omega)
    rw [hm5] at had5
    have HM5 := Lib.hid hm5
    clear hm5
    obtain ⟨m6, hm6⟩ : ∃ m, m5 ++ fieldL p.wl = m := ⟨_, rfl⟩
    have q6 : m6.length = (m5).length + (p.wl.length + 2) := by rw [← hm6, List.length_append]; try simp only [fieldL_len, wordL_len, List.length_cons, List.length_nil]
    try simp only [fieldL_len, wordL_len, List.length_cons, List.length_nil] at q6
    have had6 := fun W => add_str (P := Tryz.prog) W (m5) (fieldL p.wl) (by (try simp only [fieldL_len, wordL_len, List.length_cons, List.length_nil]); omega)
    rw [hm6] at had6
    have HM6 := Lib.hid hm6
    clear hm6
    go_upto_region 8 with fail
    refine wp_region_held_drew (S := Kp w [(w.heap.size, PkC p A n c, 27)]) (by kernel_rfl) hHeld.drew (fun hHeld => ?_)
    clear a1r a1f a1c a1l a1z
    generalize hwd : World.drew _ = we at hHeld ⊢
    clear hwd
    refine wpAnyH_take (i := 0) (oi := ({ dst := some 55, op := Go.Op.move (Go.Operand.tmp 3), type := 9, pos := "ref.go:50", after := #[], guard := none } : Oper)) (v := ?vw54) rfl (by kernel_rfl) (by kernel_rfl) (by kernel_rfl) (fun _ _ _ h => h) (Or.inl ⟨by rfl, ?hz54⟩) (by assumption) ?rs54
    case hz54 => (intro wz hSw; (try have hq1 := hSw.tail.cell); (try have hq2 := hSw.tail.tail.cell); (try have hq3 := hSw.cell); (try have hq4 := hSw.tail.row); (try have hq5 := hSw.tail.tail.row); (try have hq6 := hSw.row); (try have hq7 := hSw.tail.tail.tail.row); (try clear hSw); go_simp; all_goals with_reducible rfl)
    try simp only [Act.put, List.setIfInBounds_toArray, List.set_cons_zero, List.set_cons_succ]
    refine wpAnyH_take (i := 1) (oi := ({ dst := some 56, op := Go.Op.fieldAddr 27 (Go.Operand.tmp 1) 12, type := 0, pos := "ref.go:50", after := #[], guard := none } : Oper)) (v := ?vw55) rfl (by kernel_rfl) (by kernel_rfl) (by kernel_rfl) (fun _ _ _ h => h) (Or.inl ⟨by rfl, ?hz55⟩) (by assumption) ?rs55
    case hz55 => (intro wz hSw; (try have hq1 := hSw.tail.cell); (try have hq2 := hSw.tail.tail.cell); (try have hq3 := hSw.cell); (try have hq4 := hSw.tail.row); (try have hq5 := hSw.tail.tail.row); (try have hq6 := hSw.row); (try have hq7 := hSw.tail.tail.tail.row); (try clear hSw); go_simp; all_goals with_reducible rfl)
    try simp only [Act.put, List.setIfInBounds_toArray, List.set_cons_zero, List.set_cons_succ]
    refine wpAnyH_take (i := 2) (oi := ({ dst := some 57, op := Go.Op.fieldAddr 24 (Go.Operand.tmp 56) 0, type := 0, pos := "ref.go:50", after := #[{ on := 1, ground := Go.Ground.data }], guard := none } : Oper)) (v := ?vw56) rfl (by kernel_rfl) (by kernel_rfl) (by kernel_rfl) (fun _ _ _ h => h) (Or.inl ⟨by rfl, ?hz56⟩) (by assumption) ?rs56
    case hz56 => (intro wz hSw; (try have hq1 := hSw.tail.cell); (try have hq2 := hSw.tail.tail.cell); (try have hq3 := hSw.cell); (try have hq4 := hSw.tail.row); (try have hq5 := hSw.tail.tail.row); (try have hq6 := hSw.row); (try have hq7 := hSw.tail.tail.tail.row); (try clear hSw); go_simp; all_goals with_reducible rfl)
    try simp only [Act.put, List.setIfInBounds_toArray, List.set_cons_zero, List.set_cons_succ]
    refine wpAnyH_take (i := 3) (oi := ({ dst := some 58, op := Go.Op.load 9 (Go.Operand.tmp 57), type := 9, pos := "ref.go:50", after := #[{ on := 2, ground := Go.Ground.data }], guard := none } : Oper)) (v := ?vw57) rfl (by kernel_rfl) (by kernel_rfl) (by kernel_rfl) (fun _ _ _ h => h) (Or.inl ⟨by rfl, ?hz57⟩) (by assumption) ?rs57
    case hz57 => (intro wz hSw; (try have hq1 := hSw.tail.cell); (try have hq2 := hSw.tail.tail.cell); (try have hq3 := hSw.cell); (try have hq4 := hSw.tail.row); (try have hq5 := hSw.tail.tail.row); (try have hq6 := hSw.row); (try have hq7 := hSw.tail.tail.tail.row); (try clear hSw); go_simp; all_goals with_reducible rfl)
    try simp only [Act.put, List.setIfInBounds_toArray, List.set_cons_zero, List.set_cons_succ]
    refine wpAnyH_take (i := 6) (oi := ({ dst := some 61, op := Go.Op.fieldAddr 27 (Go.Operand.tmp 1) 12, type := 0, pos := "ref.go:50", after := #[], guard := none } : Oper)) (v := ?vw58) rfl (by kernel_rfl) (by kernel_rfl) (by kernel_rfl) (fun _ _ _ h => h) (Or.inl ⟨by rfl, ?hz58⟩) (by assumption) ?rs58
    case hz58 => (intro wz hSw; (try have hq1 := hSw.tail.cell); (try have hq2 := hSw.tail.tail.cell); (try have hq3 := hSw.cell); (try have hq4 := hSw.tail.row); (try have hq5 := hSw.tail.tail.row); (try have hq6 := hSw.row); (try have hq7 := hSw.tail.tail.tail.row); (try clear hSw); go_simp; all_goals with_reducible rfl)
    try simp only [Act.put, List.setIfInBounds_toArray, List.set_cons_zero, List.set_cons_succ]
    refine wpAnyH_take (i := 7) (oi := ({ dst := some 62, op := Go.Op.fieldAddr 24 (Go.Operand.tmp 61) 1, type := 0, pos := "ref.go:50", after := #[{ on := 6, ground := Go.Ground.data }], guard := none } : Oper)) (v := ?vw59) rfl (by kernel_rfl) (by kernel_rfl) (by kernel_rfl) (fun _ _ _ h => h) (Or.inl ⟨by rfl, ?hz59⟩) (by assumption) ?rs59
    case hz59 => (intro wz hSw; (try have hq1 := hSw.tail.cell); (try have hq2 := hSw.tail.tail.cell); (try have hq3 := hSw.cell); (try have hq4 := hSw.tail.row); (try have hq5 := hSw.tail.tail.row); (try have hq6 := hSw.row); (try have hq7 := hSw.tail.tail.tail.row); (try clear hSw); go_simp; all_goals with_reducible rfl)
    try simp only [Act.put, List.setIfInBounds_toArray, List.set_cons_zero, List.set_cons_succ]
    refine wpAnyH_take (i := 8) (oi := ({ dst := some 63, op := Go.Op.load 9 (Go.Operand.tmp 62), type := 9, pos := "ref.go:50", after := #[{ on := 7, ground := Go.Ground.data }], guard := none } : Oper)) (v := ?vw60) rfl (by kernel_rfl) (by kernel_rfl) (by kernel_rfl) (fun _ _ _ h => h) (Or.inl ⟨by rfl, ?hz60⟩) (by assumption) ?rs60
    case hz60 => (intro wz hSw; (try have hq1 := hSw.tail.cell); (try have hq2 := hSw.tail.tail.cell); (try have hq3 := hSw.cell); (try have hq4 := hSw.tail.row); (try have hq5 := hSw.tail.tail.row); (try have hq6 := hSw.row); (try have hq7 := hSw.tail.tail.tail.row); (try clear hSw); go_simp; all_goals with_reducible rfl)
    try simp only [Act.put, List.setIfInBounds_toArray, List.set_cons_zero, List.set_cons_succ]
    refine wpAnyH_ready (rs := [4]) (by kernel_rfl) (by simp) ?_
    refine (AllReadyH.cons (o := ({ dst := some 59, op := Go.Op.call { callee := Go.Callee.value (Go.Operand.func 36), args := #[Go.Operand.tmp 58], argTypes := #[9] }, type := 9, pos := "ref.go:50", after := #[{ on := 3, ground := Go.Ground.data }], guard := none } : Oper)) rfl (fun K hK => ?_) AllReadyH.nil)
    go_simp
    (go_at_call 36; refine (refData_any p.wt _ l2).mono ?_; rintro e w6 ⟨rfl, hb6⟩)
    refine hK.out _ _ (by first | exact hHeld.more hb6 | exact hHeld | exact ⟨_, hK9⟩ | exact below_more hHeld hb6) (fun hHeld1 => ?_)
    clear hHeld; have hHeld := hHeld1; clear hHeld1 hK K
    try simp only [Act.put, List.setIfInBounds_toArray, List.set_cons_zero, List.set_cons_succ]
    refine wpAnyH_take (i := 5) (oi := ({ dst := some 60, op := Go.Op.binOp Go.BinOp.add 9 (Go.Operand.tmp 55) (Go.Operand.tmp 59) 9, type := 9, pos := "ref.go:50", after := #[{ on := 0, ground := Go.Ground.data }, { on := 4, ground := Go.Ground.data }], guard := none } : Oper)) (v := ?vw61) rfl (by kernel_rfl) (by kernel_rfl) (by kernel_rfl) (fun _ _ _ h => h) (Or.inl ⟨by rfl, ?hz61⟩) (by assumption) ?rs61
    case hz61 => (intro wz hSw; (try have hq1 := hSw.tail.cell); (try have hq2 := hSw.tail.tail.cell); (try have hq3 := hSw.cell); (try have hq4 := hSw.tail.row); (try have hq5 := hSw.tail.tail.row); (try have hq6 := hSw.row); (try have hq7 := hSw.tail.tail.tail.row); (try clear hSw); go_simp; all_goals with_reducible rfl)
    try simp only [Act.put, List.setIfInBounds_toArray, List.set_cons_zero, List.set_cons_succ]
    refine wpAnyH_ready (rs := [9]) (by kernel_rfl) (by simp) ?_
    refine (AllReadyH.cons (o := ({ dst := some 64, op := Go.Op.call { callee := Go.Callee.value (Go.Operand.func 36), args := #[Go.Operand.tmp 63], argTypes := #[9] }, type := 9, pos := "ref.go:50", after := #[{ on := 8, ground := Go.Ground.data }, { on := 4, ground := Go.Ground.chain }], guard := none } : Oper)) rfl (fun K hK => ?_) AllReadyH.nil)
    go_simp
    (go_at_call 36; refine (refData_any p.wl _ l3).mono ?_; rintro e w6 ⟨rfl, hb6⟩)
    refine hK.out _ _ (by first | exact hHeld.more hb6 | exact hHeld | exact ⟨_, hK9⟩ | exact below_more hHeld hb6) (fun hHeld1 => ?_)
    clear hHeld; have hHeld := hHeld1; clear hHeld1 hK K
    try simp only [Act.put, List.setIfInBounds_toArray, List.set_cons_zero, List.set_cons_succ]
    refine wpAnyH_take (i := 10) (oi := ({ dst := some 65, op := Go.Op.binOp Go.BinOp.add 9 (Go.Operand.tmp 60) (Go.Operand.tmp 64) 9, type := 9, pos := "ref.go:50", after := #[{ on := 5, ground := Go.Ground.data }, { on := 9, ground := Go.Ground.data }], guard := none } : Oper)) (v := ?vw62) rfl (by kernel_rfl) (by kernel_rfl) (by kernel_rfl) (fun _ _ _ h => h) (Or.inl ⟨by rfl, ?hz62⟩) (by assumption) ?rs62
    case hz62 => (intro wz hSw; (try have hq1 := hSw.tail.cell); (try have hq2 := hSw.tail.tail.cell); (try have hq3 := hSw.cell); (try have hq4 := hSw.tail.row); (try have hq5 := hSw.tail.tail.row); (try have hq6 := hSw.row); (try have hq7 := hSw.tail.tail.tail.row); (try clear hSw); go_simp; all_goals with_reducible rfl)
    try simp only [Act.put, List.setIfInBounds_toArray, List.set_cons_zero, List.set_cons_succ]
    refine wpAnyH_take (i := 11) (oi := ({ dst := some 3, op := Go.Op.assign (Go.Operand.tmp 65), type := 9, pos := "ref.go:50", after := #[{ on := 10, ground := Go.Ground.data }, { on := 9, ground := Go.Ground.chain }, { on := 0, ground := Go.Ground.phase }, { on := 1, ground := Go.Ground.phase }, { on := 2, ground := Go.Ground.phase }, { on := 3, ground := Go.Ground.phase }, { on := 4, ground := Go.Ground.phase }, { on := 5, ground := Go.Ground.phase }, { on := 6, ground := Go.Ground.phase }, { on := 7, ground := Go.Ground.phase }, { on := 8, ground := Go.Ground.phase }, { on := 9, ground := Go.Ground.phase }, { on := 10, ground := Go.Ground.phase }], guard := none } : Oper)) (v := ?vw63) rfl (by kernel_rfl) (by kernel_rfl) (by kernel_rfl) (fun _ _ _ h => h) (Or.inl ⟨by rfl, ?hz63⟩) (by assumption) ?rs63
    case hz63 => (intro wz hSw; (try have hq1 := hSw.tail.cell); (try have hq2 := hSw.tail.tail.cell); (try have hq3 := hSw.cell); (try have hq4 := hSw.tail.row); (try have hq5 := hSw.tail.tail.row); (try have hq6 := hSw.row); (try have hq7 := hSw.tail.tail.tail.row); (try clear hSw); go_simp; all_goals with_reducible rfl)
    try simp only [Act.put, List.setIfInBounds_toArray, List.set_cons_zero, List.set_cons_succ]
    refine wpAnyH_done (by kernel_rfl) ?_ _
    have a1r := hHeld.row; have a1f := hHeld.free; have a1c := hHeld.cell; have a1l := hHeld.lt; have a1z := hHeld.froz
    obtain ⟨m7, hm7⟩ : ∃ m, m6 ++ fieldL p.user = m := ⟨_, rfl⟩
    have q7 : m7.length = (m6).length + (p.user.length + 2) := by rw [← hm7, List.length_append]; try simp only [fieldL_len, wordL_len, List.length_cons, List.length_nil]
    try simp only [fieldL_len, wordL_len, List.length_cons, List.length_nil] at q7
    have had7 := fun W => add_str (P := Tryz.prog) W (m6) (fieldL p.user) (by (try simp only [fieldL_len, wordL_len, List.length_cons, List.length_nil]); omega)
    rw [hm7] at had7
    have HM7 := Lib.hid hm7
    clear hm7
    go_wp2_with fail
    refine (refData_any p.user _ l4).mono ?_
    rintro e w6 ⟨rfl, hb6⟩
    have hU1 := hHeld.more hb6
    clear hb6
    clear a1r a1f a1c a1l a1z
    have a1r := hU1.row; have a1f := hU1.free; have a1c := hU1.cell; have a1l := hU1.lt; have a1z := hU1.froz
    obtain ⟨m8, hm8⟩ : ∃ m, m7 ++ fieldL p.pass = m := ⟨_, rfl⟩
    have q8 : m8.length = (m7).length + (p.pass.length + 2) := by rw [← hm8, List.length_append]; try simp only [fieldL_len, wordL_len, List.length_cons, List.length_nil]
    try simp only [fieldL_len, wordL_len, List.length_cons, List.length_nil] at q8
    have had8 := fun W => add_str (P := Tryz.prog) W (m7) (fieldL p.pass) (by (try simp only [fieldL_len, wordL_len, List.length_cons, List.length_nil]); omega)
    rw [hm8] at had8
    have HM8 := Lib.hid hm8
    clear hm8
    go_wp2_with fail
    refine (refData_any p.pass _ l5).mono ?_
    rintro e w6 ⟨rfl, hb6⟩
    have hP1 := hU1.more hb6
    clear hb6
    clear a1r a1f a1c a1l a1z
    have a1r := hP1.row; have a1f := hP1.free; have a1c := hP1.cell; have a1l := hP1.lt; have a1z := hP1.froz
    go_wp2_with fail
    go_ret
    exact ⟨by rw [HX.out, HE.out, ← HM8.out, ← HM7.out, ← HM6.out, ← HM5.out, ← HM4.out, ← HM3.out, ← HM2.out, ← HM1.out]; simp [toB], hP1.below⟩
theorem refRestW_any (p : Pk) (A : Option Addr) (n c : Nat) (xs : List (List UInt8 × Int)) (hs : Subs w A n xs) (hf : Fit p xs) (ho : Ok p xs) :
    Calls Tryz.prog 17 #[.agg (PkC p A n c)] w fun e w' => e = .returned (.string ⟨(bodyL p xs).toArray⟩) ∧ Below w.heap.size w w' := by
  rcases ho.ty with e | e | e | e | e | e | e | e | e | e | e | e | e | e
  · exact refRest_1 p A n c xs hs hf ho e
  · exact refRest_2 p A n c xs hs hf ho e
  · exact refRest_3 p A n c xs hs hf ho e
  · exact refRest_4 p A n c xs hs hf ho e
  · exact refRest_5 p A n c xs hs hf ho e
  · exact refRest_6 p A n c xs hs hf ho e
  · exact refRest_7 p A n c xs hs hf ho e
  · exact refRest_8 p A n c xs hs hf ho e
  · exact refRest_9 p A n c xs hs hf ho e
  · exact refRest_10 p A n c xs hs hf ho e
  · exact refRest_11 p A n c xs hs hf ho e
  · exact refRest_12 p A n c xs hs hf ho e
  · exact refRest_13 p A n c xs hs hf ho e
  · exact refRest_14 p A n c xs hs hf ho e
end
end Go.Proofs.YtphdooaihbmnlaaGreatDoor

/-
  The document's own encodings: the first byte, a packet, packets. (By tools/genwre.py.)
-/
namespace Go.Proofs.YtphdooaihbmnlaaGreatDoor
open Go.RowKit
set_option maxRecDepth 100000
section
variable {w : World}
theorem refFirst_1 (p : Pk) (A : Option Addr) (n c : Nat) (e : p.ty = 1) :
    Calls Tryz.prog 20 #[.agg (PkC p A n c)] w fun e w' => e = .returned (.int .i64 (p.ty * 16 + flagsN p)) ∧ Below w.heap.size w w' := by
  have HF : Hid (p.ty * 16 + flagsN p = 16) := by show _ = _; unfold flagsN; simp [e]
  have hK := ((Kp.nil w).new (PkC p A n c) 27).new #[.int .i64 0, .int .i64 0, .int .i64 0, .int .i64 0, .int .i64 0, .int .i64 0, .int .i64 2, .int .i64 0, .int .i64 2, .int .i64 0, .int .i64 2, .int .i64 0, .int .i64 0, .int .i64 0, .int .i64 0] 3
  go_enter Tryz.func20, Tryz.ntmps20
  go_wp2_with fail
  go_ret
  exact ⟨by rw [HF.out]; rfl, hK.below⟩
theorem refFirst_2 (p : Pk) (A : Option Addr) (n c : Nat) (e : p.ty = 2) :
    Calls Tryz.prog 20 #[.agg (PkC p A n c)] w fun e w' => e = .returned (.int .i64 (p.ty * 16 + flagsN p)) ∧ Below w.heap.size w w' := by
  have HF : Hid (p.ty * 16 + flagsN p = 32) := by show _ = _; unfold flagsN; simp [e]
  have hK := ((Kp.nil w).new (PkC p A n c) 27).new #[.int .i64 0, .int .i64 0, .int .i64 0, .int .i64 0, .int .i64 0, .int .i64 0, .int .i64 2, .int .i64 0, .int .i64 2, .int .i64 0, .int .i64 2, .int .i64 0, .int .i64 0, .int .i64 0, .int .i64 0] 3
  go_enter Tryz.func20, Tryz.ntmps20
  go_wp2_with fail
  go_ret
  exact ⟨by rw [HF.out]; rfl, hK.below⟩
theorem refFirst_4 (p : Pk) (A : Option Addr) (n c : Nat) (e : p.ty = 4) :
    Calls Tryz.prog 20 #[.agg (PkC p A n c)] w fun e w' => e = .returned (.int .i64 (p.ty * 16 + flagsN p)) ∧ Below w.heap.size w w' := by
  have HF : Hid (p.ty * 16 + flagsN p = 64) := by show _ = _; unfold flagsN; simp [e]
  have hK := ((Kp.nil w).new (PkC p A n c) 27).new #[.int .i64 0, .int .i64 0, .int .i64 0, .int .i64 0, .int .i64 0, .int .i64 0, .int .i64 2, .int .i64 0, .int .i64 2, .int .i64 0, .int .i64 2, .int .i64 0, .int .i64 0, .int .i64 0, .int .i64 0] 3
  go_enter Tryz.func20, Tryz.ntmps20
  go_wp2_with fail
  go_ret
  exact ⟨by rw [HF.out]; rfl, hK.below⟩
theorem refFirst_5 (p : Pk) (A : Option Addr) (n c : Nat) (e : p.ty = 5) :
    Calls Tryz.prog 20 #[.agg (PkC p A n c)] w fun e w' => e = .returned (.int .i64 (p.ty * 16 + flagsN p)) ∧ Below w.heap.size w w' := by
  have HF : Hid (p.ty * 16 + flagsN p = 80) := by show _ = _; unfold flagsN; simp [e]
  have hK := ((Kp.nil w).new (PkC p A n c) 27).new #[.int .i64 0, .int .i64 0, .int .i64 0, .int .i64 0, .int .i64 0, .int .i64 0, .int .i64 2, .int .i64 0, .int .i64 2, .int .i64 0, .int .i64 2, .int .i64 0, .int .i64 0, .int .i64 0, .int .i64 0] 3
  go_enter Tryz.func20, Tryz.ntmps20
  go_wp2_with fail
  go_ret
  exact ⟨by rw [HF.out]; rfl, hK.below⟩
theorem refFirst_6 (p : Pk) (A : Option Addr) (n c : Nat) (e : p.ty = 6) :
    Calls Tryz.prog 20 #[.agg (PkC p A n c)] w fun e w' => e = .returned (.int .i64 (p.ty * 16 + flagsN p)) ∧ Below w.heap.size w w' := by
  have HF : Hid (p.ty * 16 + flagsN p = 98) := by show _ = _; unfold flagsN; simp [e]
  have hK := ((Kp.nil w).new (PkC p A n c) 27).new #[.int .i64 0, .int .i64 0, .int .i64 0, .int .i64 0, .int .i64 0, .int .i64 0, .int .i64 2, .int .i64 0, .int .i64 2, .int .i64 0, .int .i64 2, .int .i64 0, .int .i64 0, .int .i64 0, .int .i64 0] 3
  go_enter Tryz.func20, Tryz.ntmps20
  go_wp2_with fail
  go_ret
  exact ⟨by rw [HF.out]; rfl, hK.below⟩
theorem refFirst_7 (p : Pk) (A : Option Addr) (n c : Nat) (e : p.ty = 7) :
    Calls Tryz.prog 20 #[.agg (PkC p A n c)] w fun e w' => e = .returned (.int .i64 (p.ty * 16 + flagsN p)) ∧ Below w.heap.size w w' := by
  have HF : Hid (p.ty * 16 + flagsN p = 112) := by show _ = _; unfold flagsN; simp [e]
  have hK := ((Kp.nil w).new (PkC p A n c) 27).new #[.int .i64 0, .int .i64 0, .int .i64 0, .int .i64 0, .int .i64 0, .int .i64 0, .int .i64 2, .int .i64 0, .int .i64 2, .int .i64 0, .int .i64 2, .int .i64 0, .int .i64 0, .int .i64 0, .int .i64 0] 3
  go_enter Tryz.func20, Tryz.ntmps20
  go_wp2_with fail
  go_ret
  exact ⟨by rw [HF.out]; rfl, hK.below⟩
theorem refFirst_8 (p : Pk) (A : Option Addr) (n c : Nat) (e : p.ty = 8) :
    Calls Tryz.prog 20 #[.agg (PkC p A n c)] w fun e w' => e = .returned (.int .i64 (p.ty * 16 + flagsN p)) ∧ Below w.heap.size w w' := by
  have HF : Hid (p.ty * 16 + flagsN p = 130) := by show _ = _; unfold flagsN; simp [e]
  have hK := ((Kp.nil w).new (PkC p A n c) 27).new #[.int .i64 0, .int .i64 0, .int .i64 0, .int .i64 0, .int .i64 0, .int .i64 0, .int .i64 2, .int .i64 0, .int .i64 2, .int .i64 0, .int .i64 2, .int .i64 0, .int .i64 0, .int .i64 0, .int .i64 0] 3
  go_enter Tryz.func20, Tryz.ntmps20
  go_wp2_with fail
  go_ret
  exact ⟨by rw [HF.out]; rfl, hK.below⟩
theorem refFirst_9 (p : Pk) (A : Option Addr) (n c : Nat) (e : p.ty = 9) :
    Calls Tryz.prog 20 #[.agg (PkC p A n c)] w fun e w' => e = .returned (.int .i64 (p.ty * 16 + flagsN p)) ∧ Below w.heap.size w w' := by
  have HF : Hid (p.ty * 16 + flagsN p = 144) := by show _ = _; unfold flagsN; simp [e]
  have hK := ((Kp.nil w).new (PkC p A n c) 27).new #[.int .i64 0, .int .i64 0, .int .i64 0, .int .i64 0, .int .i64 0, .int .i64 0, .int .i64 2, .int .i64 0, .int .i64 2, .int .i64 0, .int .i64 2, .int .i64 0, .int .i64 0, .int .i64 0, .int .i64 0] 3
  go_enter Tryz.func20, Tryz.ntmps20
  go_wp2_with fail
  go_ret
  exact ⟨by rw [HF.out]; rfl, hK.below⟩
theorem refFirst_10 (p : Pk) (A : Option Addr) (n c : Nat) (e : p.ty = 10) :
    Calls Tryz.prog 20 #[.agg (PkC p A n c)] w fun e w' => e = .returned (.int .i64 (p.ty * 16 + flagsN p)) ∧ Below w.heap.size w w' := by
  have HF : Hid (p.ty * 16 + flagsN p = 162) := by show _ = _; unfold flagsN; simp [e]
  have hK := ((Kp.nil w).new (PkC p A n c) 27).new #[.int .i64 0, .int .i64 0, .int .i64 0, .int .i64 0, .int .i64 0, .int .i64 0, .int .i64 2, .int .i64 0, .int .i64 2, .int .i64 0, .int .i64 2, .int .i64 0, .int .i64 0, .int .i64 0, .int .i64 0] 3
  go_enter Tryz.func20, Tryz.ntmps20
  go_wp2_with fail
  go_ret
  exact ⟨by rw [HF.out]; rfl, hK.below⟩
theorem refFirst_11 (p : Pk) (A : Option Addr) (n c : Nat) (e : p.ty = 11) :
    Calls Tryz.prog 20 #[.agg (PkC p A n c)] w fun e w' => e = .returned (.int .i64 (p.ty * 16 + flagsN p)) ∧ Below w.heap.size w w' := by
  have HF : Hid (p.ty * 16 + flagsN p = 176) := by show _ = _; unfold flagsN; simp [e]
  have hK := ((Kp.nil w).new (PkC p A n c) 27).new #[.int .i64 0, .int .i64 0, .int .i64 0, .int .i64 0, .int .i64 0, .int .i64 0, .int .i64 2, .int .i64 0, .int .i64 2, .int .i64 0, .int .i64 2, .int .i64 0, .int .i64 0, .int .i64 0, .int .i64 0] 3
  go_enter Tryz.func20, Tryz.ntmps20
  go_wp2_with fail
  go_ret
  exact ⟨by rw [HF.out]; rfl, hK.below⟩
theorem refFirst_12 (p : Pk) (A : Option Addr) (n c : Nat) (e : p.ty = 12) :
    Calls Tryz.prog 20 #[.agg (PkC p A n c)] w fun e w' => e = .returned (.int .i64 (p.ty * 16 + flagsN p)) ∧ Below w.heap.size w w' := by
  have HF : Hid (p.ty * 16 + flagsN p = 192) := by show _ = _; unfold flagsN; simp [e]
  have hK := ((Kp.nil w).new (PkC p A n c) 27).new #[.int .i64 0, .int .i64 0, .int .i64 0, .int .i64 0, .int .i64 0, .int .i64 0, .int .i64 2, .int .i64 0, .int .i64 2, .int .i64 0, .int .i64 2, .int .i64 0, .int .i64 0, .int .i64 0, .int .i64 0] 3
  go_enter Tryz.func20, Tryz.ntmps20
  go_wp2_with fail
  go_ret
  exact ⟨by rw [HF.out]; rfl, hK.below⟩
theorem refFirst_13 (p : Pk) (A : Option Addr) (n c : Nat) (e : p.ty = 13) :
    Calls Tryz.prog 20 #[.agg (PkC p A n c)] w fun e w' => e = .returned (.int .i64 (p.ty * 16 + flagsN p)) ∧ Below w.heap.size w w' := by
  have HF : Hid (p.ty * 16 + flagsN p = 208) := by show _ = _; unfold flagsN; simp [e]
  have hK := ((Kp.nil w).new (PkC p A n c) 27).new #[.int .i64 0, .int .i64 0, .int .i64 0, .int .i64 0, .int .i64 0, .int .i64 0, .int .i64 2, .int .i64 0, .int .i64 2, .int .i64 0, .int .i64 2, .int .i64 0, .int .i64 0, .int .i64 0, .int .i64 0] 3
  go_enter Tryz.func20, Tryz.ntmps20
  go_wp2_with fail
  go_ret
  exact ⟨by rw [HF.out]; rfl, hK.below⟩
theorem refFirst_14 (p : Pk) (A : Option Addr) (n c : Nat) (e : p.ty = 14) :
    Calls Tryz.prog 20 #[.agg (PkC p A n c)] w fun e w' => e = .returned (.int .i64 (p.ty * 16 + flagsN p)) ∧ Below w.heap.size w w' := by
  have HF : Hid (p.ty * 16 + flagsN p = 224) := by show _ = _; unfold flagsN; simp [e]
  have hK := ((Kp.nil w).new (PkC p A n c) 27).new #[.int .i64 0, .int .i64 0, .int .i64 0, .int .i64 0, .int .i64 0, .int .i64 0, .int .i64 2, .int .i64 0, .int .i64 2, .int .i64 0, .int .i64 2, .int .i64 0, .int .i64 0, .int .i64 0, .int .i64 0] 3
  go_enter Tryz.func20, Tryz.ntmps20
  go_wp2_with fail
  go_ret
  exact ⟨by rw [HF.out]; rfl, hK.below⟩
theorem refFirst_3 (p : Pk) (A : Option Addr) (n c : Nat) (e : p.ty = 3) (q0 : 0 ≤ p.qos) (q1 : p.qos ≤ 2) :
    Calls Tryz.prog 20 #[.agg (PkC p A n c)] w fun e w' => e = .returned (.int .i64 (p.ty * 16 + flagsN p)) ∧ Below w.heap.size w w' := by
  have b1 := yes_bd p.dup 8 (by omega)
  have b2 := yes_bd p.ret 1 (by omega)
  have HF : Hid (p.ty * 16 + flagsN p = 48 + (yesI p.dup 8 + 2 * p.qos + yesI p.ret 1)) := by show _ = _; unfold flagsN; rw [if_pos e, e]; omega
  have hK := ((Kp.nil w).new (PkC p A n c) 27).new #[.int .i64 0, .int .i64 0, .int .i64 0, .int .i64 0, .int .i64 0, .int .i64 0, .int .i64 2, .int .i64 0, .int .i64 2, .int .i64 0, .int .i64 2, .int .i64 0, .int .i64 0, .int .i64 0, .int .i64 0] 3
  have w1 : IntKind.i64.wrap p.qos = p.qos := IntWalk.i64_in _ (by omega)
  have w2 : IntKind.i64.wrap (2 * p.qos) = 2 * p.qos := IntWalk.i64_in _ (by omega)
  have w3 : IntKind.i64.wrap (yesI p.dup 8 + 2 * p.qos) = yesI p.dup 8 + 2 * p.qos := IntWalk.i64_in _ (by omega)
  have w4 : IntKind.i64.wrap (yesI p.dup 8 + 2 * p.qos + yesI p.ret 1) = yesI p.dup 8 + 2 * p.qos + yesI p.ret 1 := IntWalk.i64_in _ (by omega)
  have w5 : IntKind.i64.wrap (48 + (yesI p.dup 8 + 2 * p.qos + yesI p.ret 1)) = 48 + (yesI p.dup 8 + 2 * p.qos + yesI p.ret 1) := IntWalk.i64_in _ (by omega)
  clear b1 b2 q0 q1
  go_enter Tryz.func20, Tryz.ntmps20
  go_upto_region 3 with fail
  go_quiet ((go_at_call 35; first | exact quiet_left (refYes_any _ _ _) | exact quiet_more (refYes_any _ _ _)))
  go_wp2_with fail
  go_ret
  exact ⟨by rw [HF.out]; rfl, below_drewN hK.below _⟩
theorem refFirst_any (p : Pk) (A : Option Addr) (n c : Nat) (xs : List (List UInt8 × Int)) (hf : Fit p xs) (ho : Ok p xs) :
    Calls Tryz.prog 20 #[.agg (PkC p A n c)] w fun e w' => e = .returned (.int .i64 (p.ty * 16 + flagsN p)) ∧ Below w.heap.size w w' := by
  rcases ho.ty with e | e | e | e | e | e | e | e | e | e | e | e | e | e
  · exact refFirst_1 p A n c e
  · exact refFirst_2 p A n c e
  · exact refFirst_3 p A n c e hf.qos.1 (pub_qos ho e).1
  · exact refFirst_4 p A n c e
  · exact refFirst_5 p A n c e
  · exact refFirst_6 p A n c e
  · exact refFirst_7 p A n c e
  · exact refFirst_8 p A n c e
  · exact refFirst_9 p A n c e
  · exact refFirst_10 p A n c e
  · exact refFirst_11 p A n c e
  · exact refFirst_12 p A n c e
  · exact refFirst_13 p A n c e
  · exact refFirst_14 p A n c e
theorem refFirst_eq (p : Pk) (A : Option Addr) (n c : Nat) (xs : List (List UInt8 × Int)) (v : Int) (hf : Fit p xs) (ho : Ok p xs) (h : p.ty * 16 + flagsN p = v) :
    Calls Tryz.prog 20 #[.agg (PkC p A n c)] w fun e w' => e = .returned (.int .i64 v) ∧ Below w.heap.size w w' := h ▸ refFirst_any p A n c xs hf ho
theorem refRestW_eq (p : Pk) (A : Option Addr) (n c : Nat) (xs : List (List UInt8 × Int)) (B : List UInt8) (hs : Subs w A n xs) (hf : Fit p xs) (ho : Ok p xs) (h : bodyL p xs = B) :
    Calls Tryz.prog 17 #[.agg (PkC p A n c)] w fun e w' => e = .returned (.string ⟨B.toArray⟩) ∧ Below w.heap.size w w' := h ▸ refRestW_any p A n c xs hs hf ho
theorem refLenW_eq (v : Int) (L : List UInt8) (h0 : 0 ≤ v) (h1 : v ≤ 268435455) (h : lenL 3 v = L) :
    Calls Tryz.prog 18 #[.int .i64 v] w fun e w' => e = .returned (.tuple #[.string ⟨L.toArray⟩, .int .i64 0]) ∧ Below w.heap.size w w' := h ▸ refLen_yes v w h0 h1
set_option maxHeartbeats 4000000 in
theorem refEnc_eq (p : Pk) (A : Option Addr) (n c : Nat) (xs : List (List UInt8 × Int)) (bs : List UInt8) (er : Int) (hs : Subs w A n xs) (hf : Fit p xs) (h : encR p xs = (bs, er)) :
    Calls Tryz.prog 8 #[.agg (PkC p A n c)] w fun e w' => e = .returned (.tuple #[.string ⟨bs.toArray⟩, .int .i64 er]) ∧ Below w.heap.size w w' := by
  have hK0 := (Kp.nil w).new (PkC p A n c) 27
  have HS := Lib.hid hs
  have HF := Lib.hid hf
  clear hs hf
  by_cases h0 : 0 ≤ restN p xs
  · have hO := ok_of h0
    have HO := Lib.hid hO
    have HR : Hid (decide (0 ≤ restN p xs) = true) := by show _ = _; simpa using h0
    obtain ⟨v, hv⟩ : ∃ v, restN p xs = v := ⟨_, rfl⟩
    obtain ⟨B, hB⟩ : ∃ B, bodyL p xs = B := ⟨_, rfl⟩
    obtain ⟨Ln, hLn⟩ : ∃ L, lenL 3 v = L := ⟨_, rfl⟩
    obtain ⟨F, hF⟩ : ∃ F, p.ty * 16 + flagsN p = F := ⟨_, rfl⟩
    have hBl := body_len hO
    have fb := flags_bd hO HF.out.num'
    have hty := hO.ty
    have F0 : 0 ≤ F := by omega
    have F1 : F < 256 := by omega
    have hv0 : 0 ≤ v := by omega
    have hv1 : v ≤ 268435455 := by rw [← hv]; exact hO.hi
    have hll := lenL_len 3 v
    have HE : Hid (bs = toB F :: (Ln ++ B) ∧ er = 0) := by
      show _ ∧ _
      unfold encR at h
      rw [if_pos h0] at h
      unfold encL at h
      rw [hF, hv, hLn, hB] at h
      cases h
      exact ⟨rfl, rfl⟩
    rw [hB, hv] at hBl
    rw [hLn] at hll
    have HB := Lib.hid hB
    have HLn := Lib.hid hLn
    have HFF := Lib.hid hF
    have had1 := fun W => add_str (P := Tryz.prog) W [toB F] Ln (by simp; omega)
    obtain ⟨m1, hm1⟩ : ∃ m, [toB F] ++ Ln = m := ⟨_, rfl⟩
    have hml : m1.length = Ln.length + 1 := by rw [← hm1]; simp
    rw [hm1] at had1
    have HM1 := Lib.hid hm1
    have had2 := fun W => add_str (P := Tryz.prog) W m1 B (by omega)
    clear hm1
    clear h h0 hO hv hB hLn hF fb hty hll
    go_enter Tryz.func8, Tryz.ntmps8
    go_wp2_with fail
    refine (refRightW_eq p A n c xs true _ (HS.out.below hK0.below) HF.out HR.out).mono ?_
    rintro e w6 ⟨rfl, hb6⟩
    have hK1 := hK0.more hb6
    clear hb6 hK0
    have a1r := hK1.row; have a1f := hK1.free; have a1c := hK1.cell; have a1l := hK1.lt; have a1z := hK1.froz
    go_wp2_with fail
    refine (refRestW_eq p A n c xs B (HS.out.below hK1.below) HF.out HO.out HB.out).mono ?_
    rintro e w6 ⟨rfl, hb6⟩
    have hK2 := hK1.more hb6
    clear hb6 hK1 a1r a1f a1c a1l a1z
    have a1r := hK2.row; have a1f := hK2.free; have a1c := hK2.cell; have a1l := hK2.lt; have a1z := hK2.froz
    go_wp2_with fail
    refine (refLenW_eq v Ln hv0 hv1 HLn.out).mono ?_
    rintro e w6 ⟨rfl, hb6⟩
    have hK3 := hK2.more hb6
    clear hb6 hK2 a1r a1f a1c a1l a1z
    have a1r := hK3.row; have a1f := hK3.free; have a1c := hK3.cell; have a1l := hK3.lt; have a1z := hK3.froz
    go_wp2_with fail
    refine (refFirst_eq p A n c xs F HF.out HO.out HFF.out).mono ?_
    rintro e w6 ⟨rfl, hb6⟩
    have hK4 := hK3.more hb6
    clear hb6 hK3 a1r a1f a1c a1l a1z
    go_wp2_with fail
    refine (refOne_any F _ F0 F1).mono ?_
    rintro e w6 ⟨rfl, hb6⟩
    have hK5 := hK4.more hb6
    clear hb6 hK4
    go_wp2_with fail
    go_ret2
    exact ⟨by rw [HE.out.1, HE.out.2, ← HM1.out]; simp, hK5.below⟩
  · have HR : Hid (decide (0 ≤ restN p xs) = false) := by show _ = _; simpa using h0
    have HE : Hid (bs = [] ∧ er = 4) := by
      show _ ∧ _
      unfold encR at h
      rw [if_neg h0] at h
      cases h
      exact ⟨rfl, rfl⟩
    clear h h0
    go_enter Tryz.func8, Tryz.ntmps8
    go_wp2_with fail
    refine (refRightW_eq p A n c xs false _ (HS.out.below hK0.below) HF.out HR.out).mono ?_
    rintro e w6 ⟨rfl, hb6⟩
    have hK1 := hK0.more hb6
    clear hb6 hK0
    go_wp2_with fail
    go_ret2
    exact ⟨by rw [HE.out.1, HE.out.2]; rfl, hK1.below⟩
theorem encR_of (x : PX) : encR x.1 x.2 = if okB x then (encP x, 0) else ([], 4) := by
  unfold encR okB encP
  by_cases h : 0 ≤ restN x.1 x.2 <;> simp [h]
set_option maxHeartbeats 4000000 in
theorem refAll_any (A : Option Addr) (n c : Nat) (ps : List PX) (hs : Pks w A n ps) (hn : n ≤ 50) (hf : ∀ x ∈ ps, Fit x.1 x.2) :
    Calls Tryz.prog 13 #[.slice A n c] w fun e w' => e = .returned (.tuple #[.string ⟨(allR ps).1.toArray⟩, .int .i64 (allR ps).2]) ∧ Below w.heap.size w w' := by
  have hb : Below w.heap.size w w := Below.refl _ _
  have HS := Lib.hid hs
  have HF := Lib.hid hf
  have hlen := hs.len
  clear hs hf
  go_enter Tryz.func13, Tryz.ntmps13
  go_wp2_with fail
  go_loopw [4, 5] (fun s i wr => ∃ k : Nat, i = .int .i64 k ∧ k ≤ n ∧ s = .string ⟨((ps.take k).flatMap encP).toArray⟩ ∧ Below w.heap.size w wr ∧ Hid ((ps.take k).all okB = true)) (fun _ i _ => n - (intOf i).toNat)
  case atStart => exact ⟨0, rfl, by omega, by simp, hb, rfl⟩
  case round =>
    clear hb
    obtain ⟨k, rfl, hk, rfl, hb, HOK⟩ := hrel
    have hsz := encs_len _ HOK.out
    rw [List.length_take, Nat.min_eq_left (by omega)] at hsz
    by_cases hlt : k < n
    · have hlt2 : (k : Int) < (n : Int) := by omega
      obtain ⟨bx, off, x, A', n', c', rfl, hxk, hbx, hrs, hex, hsub, hc'⟩ := (HS.out.below hb).at_ hlt
      have HSUB : Hid (Subs w A' n' x.2) := by
        obtain ⟨b2, off2, x2, A2, n2, c2, e2, hx2, hb2, _, hex2, hsub2, _⟩ := HS.out.at_ hlt
        cases e2
        rw [hxk] at hx2
        cases hx2
        rw [rowAt_below hb hb2] at hex
        rw [hex2] at hex
        have h22 := congrArg (fun a => a[22]?) hex
        simp only [PkC_22, Option.some.injEq, Value.slice.injEq] at h22
        obtain ⟨h1, h2, _⟩ := h22
        subst h1 h2
        exact hsub2
      have HFX := Lib.hid (HF.out x (List.mem_of_getElem? hxk))
      have HXK := Lib.hid hxk
      clear hxk hsub hc'
      cases hok : okB x with
      | false =>
        have HR : Hid (allR ps = ([], 4)) := all_no' ps k x HXK.out hok
        have HE : Hid (encR x.1 x.2 = ([], 4)) := by show _ = _; rw [encR_of, hok]; rfl
        clear hok
        go_wp2_with fail
        refine (refEnc_eq x.1 A' n' c' x.2 [] 4 (HSUB.out.below hb) HFX.out HE.out).mono ?_
        rintro e w6 ⟨rfl, hb6⟩
        replace hb := below_more hb hb6
        clear hb6
        go_wp2_with fail
        go_ret2
        exact ⟨by rw [HR.out]; rfl, hb⟩
      | true =>
        have HE : Hid (encR x.1 x.2 = (encP x, 0)) := by show _ = _; rw [encR_of, hok]; rfl
        have HSN := Lib.hid (enc_snoc ps k x HXK.out)
        have HOS := Lib.hid (ok_snoc ps k x HXK.out hok HOK.out)
        have hel := encP_len hok
        obtain ⟨E, hE⟩ : ∃ E, encP x = E := ⟨_, rfl⟩
        obtain ⟨T, hT⟩ : ∃ T, (ps.take k).flatMap encP = T := ⟨_, rfl⟩
        rw [hT] at hsz HSN
        rw [hE] at hel HSN HE
        rw [hT]
        have had := fun W => add_str (P := Tryz.prog) W T E (by omega)
        clear hok hE hT
        go_wp2_with fail
        refine (refEnc_eq x.1 A' n' c' x.2 E 0 (HSUB.out.below hb) HFX.out HE.out).mono ?_
        rintro e w6 ⟨rfl, hb6⟩
        replace hb := below_more hb hb6
        clear hb6
        go_wp2_with fail
        go_roundw
        case rel => exact ⟨k + 1, by go_num, by omega, by rw [HSN.out], hb, HOS.out⟩
        case measure => simp [intOf]; omega
    · have hge : ¬ (k : Int) < (n : Int) := by omega
      have hke : ps.take k = ps := List.take_of_length_le (by omega)
      have HR : Hid (allR ps = (ps.flatMap encP, 0)) := all_yes' ps (by rw [← hke]; exact HOK.out)
      rw [hke]
      clear hke
      go_wp2_with fail
      go_ret2
      exact ⟨by rw [HR.out]; rfl, hb⟩
theorem refAll_eq (A : Option Addr) (n c : Nat) (ps : List PX) (bs : List UInt8) (er : Int) (hs : Pks w A n ps) (hn : n ≤ 50) (hf : ∀ x ∈ ps, Fit x.1 x.2) (h : allR ps = (bs, er)) :
    Calls Tryz.prog 13 #[.slice A n c] w fun e w' => e = .returned (.tuple #[.string ⟨bs.toArray⟩, .int .i64 er]) ∧ Below w.heap.size w w' := by
  have := refAll_any (w := w) A n c ps hs hn hf
  rw [h] at this
  exact this
end
end Go.Proofs.YtphdooaihbmnlaaGreatDoor
