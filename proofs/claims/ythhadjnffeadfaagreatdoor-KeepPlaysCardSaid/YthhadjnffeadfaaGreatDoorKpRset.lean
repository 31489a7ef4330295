/-
  keep: the document's own Set.
-/
import Derived.Test.YthhadjnffeadfaaGreatDoorKpRef
set_option linter.unusedSimpArgs false
set_option linter.unusedVariables false
namespace Go.Proofs.YthhadjnffeadfaaGreatDoor
open Go.RowKit

/-- What Set leaves: the store at g with other messages, all else as it was. -/
def RS (w : World) (g : Nat) (A0 : Option Addr) (n0 : Nat) (M : List Ms) (r : Bool) (e : Ending) (w' : World) : Prop :=
  ∃ A n c, e = .returned (.bool r) ∧ RK w' g A n c M ∧ Outs w w' (· = g) ∧ (A = A0 ∧ n = n0 ∨ ∀ b o, A = some ⟨b, o, none⟩ → w.heap.size ≤ b)
theorem goM_step (m : Ms) (L : List Ms) (k : Nat) (x : Ms) (h : L[k]? = some x) (d : Bool) : goM m d (L.drop k) = (if !d && ltB m.1 x.1 then [m] else []) ++ ((if x.1 != m.1 then [x] else []) ++ goM m (d || ltB m.1 x.1) (L.drop (k + 1))) := by
  have hlt := (List.getElem?_eq_some_iff.1 h).1
  rw [List.drop_eq_getElem_cons hlt, (List.getElem?_eq_some_iff.1 h).2]
  rfl
section
variable {w w' : World} {g n c : Nat} {A : Option Addr} {L : List Ms}
set_option maxHeartbeats 1000000 in
theorem rSet_no (hT : RK w g A n c L) (m : Ms) (h1 : m.1.length ≤ 1000000) (hm : mayB m = false) :
    Calls Tryz.prog 11 #[.pointer (some ⟨g, 0, none⟩), .agg #[.string ⟨m.1.toArray⟩, .string ⟨m.2.1.toArray⟩, .int .u8 m.2.2.1, .bool m.2.2.2]] w fun e w' => RS w g A n L false e w' := by
  obtain ⟨s, p, q, b⟩ := m
  dsimp only at h1
  have HT := Lib.hid hT
  have HM := Lib.hid hm
  obtain ⟨W, hW⟩ : ∃ W, W = w.alloc (.cells #[.string ⟨s.toArray⟩, .string ⟨p.toArray⟩, .int .u8 q, .bool b] 32) := ⟨_, rfl⟩
  have hbW : Below w.heap.size w W := by rw [hW]; exact below_alloc (Below.refl _ _) _
  have hX : BxM W w.heap.size (s, p, q, b) := by rw [hW]; exact BxM.new w (s, p, q, b)
  have x0 := hX.c0; have x1 := hX.c1; have x2 := hX.c2; have x3 := hX.c3
  dsimp only at x0 x1 x2 x3
  clear hT hm hX
  go_enter Tryz.func11, Tryz.ntmps11
  go_wp2_with fail
  rw [← hW]
  refine (rMay _ (s, p, q, b) false (by dsimp only; omega) HM.out).mono ?_
  rintro e w1 ⟨rfl, hb1⟩
  have hb := hbW.trans (hb1.mono hbW.size)
  go_wp2_with fail
  go_ret
  exact ⟨A, n, c, rfl, HT.out.below hb, Outs.of_below hb, Or.inl ⟨rfl, rfl⟩⟩
set_option maxRecDepth 100000 in
set_option maxHeartbeats 8000000 in
theorem rSet_yes (hT : RK w g A n c L) (hn : n ≤ 1000) (m : Ms) (M : List Ms) (h1 : m.1.length ≤ 1000000) (hm : mayB m = true) (hM : goM (rtM m) (m.2.1 == []) L = M) :
    Calls Tryz.prog 11 #[.pointer (some ⟨g, 0, none⟩), .agg #[.string ⟨m.1.toArray⟩, .string ⟨m.2.1.toArray⟩, .int .u8 m.2.2.1, .bool m.2.2.2]] w fun e w' => RS w g A n M true e w' := by
  obtain ⟨s, p, q, b⟩ := m
  dsimp only at h1
  have HT := Lib.hid hT
  have HMY := Lib.hid hm
  have HL := Lib.hid hT.len
  have hMl : M.length ≤ 1001 := by
    rw [← hM]
    have h9 := set_len (L := L) (s, p, q, b)
    unfold setM at h9
    rw [if_pos hm] at h9
    have := hT.len
    omega
  have HM : Hid (goM (s, p, q, true) (p == []) L = M) := hM
  obtain ⟨W, hW⟩ : ∃ W, W = w.alloc (.cells #[.string ⟨s.toArray⟩, .string ⟨p.toArray⟩, .int .u8 q, .bool b] 32) := ⟨_, rfl⟩
  have hbW : Below w.heap.size w W := by rw [hW]; exact below_alloc (Below.refl _ _) _
  have hX : BxM W w.heap.size (s, p, q, b) := by rw [hW]; exact BxM.new w (s, p, q, b)
  have HX1 := Lib.hid hX
  have x0 := hX.c0; have x1 := hX.c1; have x2 := hX.c2; have x3 := hX.c3
  dsimp only at x0 x1 x2 x3
  clear hT hm hX hM
  go_enter Tryz.func11, Tryz.ntmps11
  go_wp2_with fail
  rw [← hW]
  clear hW
  refine (rMay _ (s, p, q, b) true (by dsimp only; omega) HMY.out).mono ?_
  rintro e w1 ⟨rfl, hb1⟩
  have hb := hbW.trans (hb1.mono hbW.size)
  have X1 := HX1.out.below hb1
  have f3 := X1.fr 3
  have y3 := X1.c3
  have y1 := X1.c1
  obtain ⟨W2, hW2⟩ : ∃ W, W = w1.setCell ⟨w.heap.size, 3, none⟩ (.bool true) := ⟨_, rfl⟩
  have hU2 : Outs w1 W2 (fun x => x = w.heap.size) := by rw [hW2]; exact (Outs.refl w1 (fun x => x = w.heap.size)).setCell w.heap.size 3 rfl _
  have HX2 : Hid (BxM W2 w.heap.size (s, p, q, true)) := by show BxM _ _ _; rw [hW2]; exact X1.set3 true
  have hgl := HT.out.lt
  have HT2 : Hid (RK W2 g A n c L) := (HT.out.below hb).outs hU2 (by omega) (fun bb o e h0 => by
    obtain ⟨b9, o9, _, e9, _, hat9⟩ := HT.out.2.1.at_ h0
    rw [e] at e9
    cases e9
    have := hat9.lt
    omega)
  have HS2 : Hid (Msgs W2 A n L) := HT2.out.2.1
  have hb2 : Below w.heap.size w W2 := by rw [hW2]; exact hb.setCell (p := ⟨w.heap.size, 3, none⟩) (Nat.le_refl _) _
  have HB2 := Lib.hid hb2
  have hgw : w.heap.size < W2.heap.size := HX2.out.lt
  dsimp only at y1 y3
  clear X1 hb hb1 hb2 hU2 x0 x1 x2 x3 hbW
  go_wp2_with fail
  rw [← hW2]
  clear hW2 y1 y3 f3
  go_loopw [5, 6, 7] (fun v d i wr => ∃ (k : Nat) (d0 : Bool) (R : List Ms), d = .bool d0 ∧ i = .int .i64 k ∧ k ≤ n ∧ OwnM W2.heap.size W2 wr v R ∧ Hid (R ++ goM (s, p, q, true) d0 (L.drop k) = M)) (fun v d i _ => n - (intOf i).toNat)
  case atStart => exact ⟨0, p.isEmpty, [], rfl, rfl, by omega, OwnM.nil (Below.refl _ _) (Nat.le_refl _), by show _ = _; rw [List.drop_zero, List.nil_append, ← HM.out]; cases p <;> rfl⟩
  case round =>
    obtain ⟨k, d0, R, rfl, rfl, hk, hO, hR⟩ := hrel
    have hRl : R.length ≤ 1001 := by have := congrArg List.length hR.out; rw [List.length_append] at this; omega
    have hbo := hO.below
    have HO := Lib.hid hO
    have hcell := (HT2.out.below hbo).cell
    obtain ⟨z0, z1, z2, z3⟩ := (HX2.out.below hbo).at_
    dsimp only at z0 z1 z2 z3
    by_cases hlt : k < n
    · obtain ⟨b1, o1, x, rfl, hx, hat⟩ := (HS2.out.below hbo).at_ hlt
      have hgo := goM_step (s, p, q, true) L k x hx d0
      have HX := Lib.hid hx
      have HAT := Lib.hid hat
      obtain ⟨x1, x2, x3, x4⟩ := x
      obtain ⟨q0, q1, q2, q3⟩ := hat
      dsimp only at q0 q1 q2 q3 hgo
      have HFAC : Hid (∀ wz, Below W2.heap.size W2 wz → wz.cell? ⟨g, 0, none⟩ = some (.slice (some ⟨b1, o1, none⟩) n c) ∧ MsAt wz w.heap.size 0 (s, p, q, true) ∧ MsAt wz b1 (o1 + k * 4) (x1, x2, x3, x4)) := fun wz hz => by
        refine ⟨(HT2.out.below hz).cell, (HX2.out.below hz).at_, ?_⟩
        obtain ⟨b9, o9, x9, e9, hx9, hat9⟩ := (HS2.out.below hz).at_ hlt
        cases e9
        rw [HX.out] at hx9
        cases hx9
        exact hat9
      have hk0 : (0 : Int) ≤ (k : Int) := by omega
      have hkI : (k : Int) < (n : Int) := by omega
      clear hx hO
      cases d0 with
      | true =>
        rw [Bool.not_true, Bool.false_and, Bool.true_or, if_neg (by decide), List.nil_append] at hgo
        by_cases hxs : x1 = s
        · subst hxs
          have d1 : (x1 != x1) = false := by simp
          have HN : Hid (R ++ goM (x1, p, q, true) true (L.drop (k + 1)) = M) := by
            show _ = _
            rw [← hR.out, hgo]
            simp
          clear hgo
          go_wp2_with fail
          go_quiet (fail)
          have hO4 := HO.out.drewN nq
          generalize wr.drewN nq = w4 at hO4 ⊢
          have HO4 := Lib.hid hO4
          obtain ⟨hcell, ⟨z0, z1, z2, z3⟩, q0, q1, q2, q3⟩ := HFAC.out w4 hO4.below
          dsimp only at z0 z1 z2 z3 q0 q1 q2 q3
          clear hO4
          go_wp2_with fail
          go_quiet (fail)
          have hO5 := HO4.out.drewN nq
          generalize w4.drewN nq = w5 at hO5 ⊢
          have HO5 := Lib.hid hO5
          clear hO5
          go_wp2_with fail
          go_roundw
          case rel => exact ⟨k + 1, _, _, rfl, by go_num, by omega, HO5.out, HN⟩
          case measure => simp [intOf]; omega
        · have d1 : (x1 != s) = true := by simpa using hxs
          have d2 : (x1 == s) = false := by simpa using hxs
          have HN : Hid ((R ++ [(x1, x2, x3, x4)]) ++ goM (s, p, q, true) true (L.drop (k + 1)) = M) := by
            show _ = _
            rw [← hR.out, hgo, d1]
            simp
          clear hgo
          go_wp2_with fail
          go_quiet (fail)
          have hO4 := HO.out.drewN nq
          generalize wr.drewN nq = w4 at hO4 ⊢
          have HO4 := Lib.hid hO4
          obtain ⟨hcell, ⟨z0, z1, z2, z3⟩, q0, q1, q2, q3⟩ := HFAC.out w4 hO4.below
          dsimp only at z0 z1 z2 z3 q0 q1 q2 q3
          clear hO4
          go_wp2_with fail
          go_quiet (fail)
          have hO5 := HO4.out.drewN nq
          generalize w4.drewN nq = w5 at hO5 ⊢
          have HO5 := Lib.hid hO5
          clear hcell z0 z1 z2 z3 q0 q1 q2 q3
          obtain ⟨hcell, ⟨z0, z1, z2, z3⟩, q0, q1, q2, q3⟩ := HFAC.out w5 hO5.below
          dsimp only at z0 z1 z2 z3 q0 q1 q2 q3
          clear hO5
          go_wp2_with (at_builtin; refine wpList_mapp rfl _ _ rfl rfl (HO5.out.alloc _) _ 1 1 [(x1, x2, x3, x4)] rfl (msgs_new w5 (x1, x2, x3, x4) _) (fun e => by cases e) (by simp; omega) ?_; intro v9 w9 hO9 hgr9)
          have HO9 := Lib.hid hO9
          clear hO9 hgr9
          go_wp2_with fail
          go_roundw
          case rel => exact ⟨k + 1, _, _, rfl, by go_num, by omega, HO9.out, HN⟩
          case measure => simp [intOf]; omega
      | false =>
        rw [Bool.not_false, Bool.true_and, Bool.false_or] at hgo
        cases hl : Op.bytesLess s x1 with
        | true =>
          have hl2 : ltB s x1 = true := hl
          have hxs : ¬ x1 = s := fun e => by rw [e, lt_ord.irr] at hl2; cases hl2
          have d1 : (x1 != s) = true := by simpa using hxs
          have d2 : (x1 == s) = false := by simpa using hxs
          have hl3 : Op.bytesLess x1 s = false := by
            cases h9 : Op.bytesLess x1 s with
            | false => rfl
            | true => have := lt_ord.tra s x1 s hl2 h9; rw [lt_ord.irr] at this; cases this
          rw [hl2] at hgo
          have HN : Hid (((R ++ [(s, p, q, true)]) ++ [(x1, x2, x3, x4)]) ++ goM (s, p, q, true) true (L.drop (k + 1)) = M) := by
            show _ = _
            rw [← hR.out, hgo, d1]
            simp
          clear hgo hl2
          go_wp2_with fail
          go_quiet (fail)
          have hO4 := HO.out.drewN nq
          generalize wr.drewN nq = w4 at hO4 ⊢
          have HO4 := Lib.hid hO4
          obtain ⟨hcell, ⟨z0, z1, z2, z3⟩, q0, q1, q2, q3⟩ := HFAC.out w4 hO4.below
          dsimp only at z0 z1 z2 z3 q0 q1 q2 q3
          clear hO4
          go_wp2_with (at_builtin; refine wpList_mapp rfl _ _ rfl rfl (HO4.out.alloc _) _ 1 1 [(s, p, q, true)] rfl (msgs_new w4 (s, p, q, true) _) (fun e => by cases e) (by omega) ?_; intro v8 w8 hO8 hgr8)
          clear HO4 hcell z0 z1 z2 z3 q0 q1 q2 q3 hgr8
          have HO4 := Lib.hid hO8
          obtain ⟨hcell, ⟨z0, z1, z2, z3⟩, q0, q1, q2, q3⟩ := HFAC.out w8 hO8.below
          dsimp only at z0 z1 z2 z3 q0 q1 q2 q3
          clear hO8
          go_quiet (fail)
          have hO5 := HO4.out.drewN nq
          generalize w8.drewN nq = w5 at hO5 ⊢
          have HO5 := Lib.hid hO5
          clear hcell z0 z1 z2 z3 q0 q1 q2 q3
          obtain ⟨hcell, ⟨z0, z1, z2, z3⟩, q0, q1, q2, q3⟩ := HFAC.out w5 hO5.below
          dsimp only at z0 z1 z2 z3 q0 q1 q2 q3
          clear hO5
          go_wp2_with (at_builtin; refine wpList_mapp rfl _ _ rfl rfl (HO5.out.alloc _) _ 1 1 [(x1, x2, x3, x4)] rfl (msgs_new w5 (x1, x2, x3, x4) _) (fun e => by cases e) (by simp; omega) ?_; intro v9 w9 hO9 hgr9)
          have HO9 := Lib.hid hO9
          clear hO9 hgr9
          go_wp2_with fail
          go_roundw
          case rel => exact ⟨k + 1, _, _, rfl, by go_num, by omega, HO9.out, HN⟩
          case measure => simp [intOf]; omega
        | false =>
          have hl2 : ltB s x1 = false := hl
          rw [hl2, if_neg (by decide), List.nil_append] at hgo
          by_cases hxs : x1 = s
          · subst hxs
            have d1 : (x1 != x1) = false := by simp
            have HN : Hid (R ++ goM (x1, p, q, true) false (L.drop (k + 1)) = M) := by
              show _ = _
              rw [← hR.out, hgo]
              simp
            clear hgo hl2
            go_wp2_with fail
            go_quiet (fail)
            have hO4 := HO.out.drewN nq
            generalize wr.drewN nq = w4 at hO4 ⊢
            have HO4 := Lib.hid hO4
            obtain ⟨hcell, ⟨z0, z1, z2, z3⟩, q0, q1, q2, q3⟩ := HFAC.out w4 hO4.below
            dsimp only at z0 z1 z2 z3 q0 q1 q2 q3
            clear hO4
            go_wp2_with fail
            go_quiet (fail)
            have hO5 := HO4.out.drewN nq
            generalize w4.drewN nq = w5 at hO5 ⊢
            have HO5 := Lib.hid hO5
            clear hO5
            go_wp2_with fail
            go_roundw
            case rel => exact ⟨k + 1, _, _, rfl, by go_num, by omega, HO5.out, HN⟩
            case measure => simp [intOf]; omega
          · have d1 : (x1 != s) = true := by simpa using hxs
            have d2 : (x1 == s) = false := by simpa using hxs
            have hl3 : Op.bytesLess x1 s = true := lt_ord.tot s x1 (fun e => hxs e.symm) hl2
            have HN : Hid ((R ++ [(x1, x2, x3, x4)]) ++ goM (s, p, q, true) false (L.drop (k + 1)) = M) := by
              show _ = _
              rw [← hR.out, hgo, d1]
              simp
            clear hgo hl2
            go_wp2_with fail
            go_quiet (fail)
            have hO4 := HO.out.drewN nq
            generalize wr.drewN nq = w4 at hO4 ⊢
            have HO4 := Lib.hid hO4
            obtain ⟨hcell, ⟨z0, z1, z2, z3⟩, q0, q1, q2, q3⟩ := HFAC.out w4 hO4.below
            dsimp only at z0 z1 z2 z3 q0 q1 q2 q3
            clear hO4
            go_wp2_with fail
            go_quiet (fail)
            have hO5 := HO4.out.drewN nq
            generalize w4.drewN nq = w5 at hO5 ⊢
            have HO5 := Lib.hid hO5
            clear hcell z0 z1 z2 z3 q0 q1 q2 q3
            obtain ⟨hcell, ⟨z0, z1, z2, z3⟩, q0, q1, q2, q3⟩ := HFAC.out w5 hO5.below
            dsimp only at z0 z1 z2 z3 q0 q1 q2 q3
            clear hO5
            go_wp2_with (at_builtin; refine wpList_mapp rfl _ _ rfl rfl (HO5.out.alloc _) _ 1 1 [(x1, x2, x3, x4)] rfl (msgs_new w5 (x1, x2, x3, x4) _) (fun e => by cases e) (by simp; omega) ?_; intro v9 w9 hO9 hgr9)
            have HO9 := Lib.hid hO9
            clear hO9 hgr9
            go_wp2_with fail
            go_roundw
            case rel => exact ⟨k + 1, _, _, rfl, by go_num, by omega, HO9.out, HN⟩
            case measure => simp [intOf]; omega
    · have hdr : L.drop k = [] := List.drop_of_length_le (by rw [HL.out]; omega)
      have hr := hR.out
      rw [hdr] at hr
      clear hO
      have hfz := (HT2.out.below hbo).froz 0
      have HTR := Lib.hid (HT2.out.below hbo)
      have hbw := HB2.out.trans (hbo.mono (by omega))
      cases d0 with
      | true =>
        have HRM : Hid (R = M) := by show _ = _; rw [← hr]; simp [goM]
        obtain ⟨A5, c5, rfl, hn5, hs5, hA5, hg5⟩ := HO.out.form
        have HR5 := Lib.hid (HTR.out.set hs5 hA5 hn5 (fun b o e e2 => by have := hg5 b o e; omega))
        have HU5 : Hid (Outs w (wr.setCell ⟨g, 0, none⟩ (.slice A5 R.length c5)) (· = g)) := (Outs.of_below (F := fun x => x = g) hbw).setCell g 0 rfl _
        have HG5 := Lib.hid hg5
        clear hr hn5 hs5 hA5 hg5
        go_wp2_with fail
        go_ret
        refine ⟨A5, R.length, c5, rfl, ?_, HU5.out, Or.inr fun b o e => Nat.le_trans (Nat.le_of_lt hgw) (HG5.out b o e)⟩
        have := HR5.out
        rw [← HRM.out]
        exact this
      | false =>
        have HRM : Hid (R ++ [(s, p, q, true)] = M) := by show _ = _; rw [← hr]; simp [goM]
        clear hr
        go_wp2_with (at_builtin; refine wpList_mapp rfl _ _ rfl rfl (HO.out.alloc _) _ 1 1 [(s, p, q, true)] rfl (msgs_new wr (s, p, q, true) _) (fun e => by cases e) (by omega) ?_; intro v8 w8 hO8 hgr8; obtain ⟨A5, c5, rfl, hn5, hs5, hA5, hg5⟩ := hO8.form; have hb8 := hO8.below; have HT8 := Lib.hid (HT2.out.below hb8); have hcell8 := HT8.out.cell; have hfz8 := HT8.out.froz 0; have HB8 := Lib.hid hb8; have HN5 := Lib.hid hn5; have HS5 := Lib.hid hs5; have HA5 := Lib.hid hA5; have HG5 := Lib.hid hg5; clear hO8 hgr8 hn5 hs5 hA5 hg5 hb8)
        go_ret
        rw [HRM.out] at HN5 HS5
        refine ⟨A5, M.length, c5, rfl, ?_, ?_, Or.inr fun b o e => Nat.le_trans (Nat.le_of_lt hgw) (HG5.out b o e)⟩
        · have := HT8.out.set HS5.out HA5.out HN5.out (fun b o e e2 => by have := HG5.out b o e; omega)
          have hl : R.length + 1 = M.length := by rw [← HRM.out]; simp
          simpa [hl] using this
        · exact (Outs.of_below (F := fun x => x = g) (HB2.out.trans (HB8.out.mono (by omega)))).setCell g 0 rfl _
theorem rSet_any (hT : RK w g A n c L) (hn : n ≤ 1000) (m : Ms) (M : List Ms) (r : Bool) (h1 : m.1.length ≤ 1000000) (hM : setM L m = M) (hr : mayB m = r) :
    Calls Tryz.prog 11 #[.pointer (some ⟨g, 0, none⟩), .agg #[.string ⟨m.1.toArray⟩, .string ⟨m.2.1.toArray⟩, .int .u8 m.2.2.1, .bool m.2.2.2]] w fun e w' => RS w g A n M r e w' := by
  subst hM hr
  cases hm : mayB m with
  | false => rw [set_no hm]; exact rSet_no hT m h1 hm
  | true => exact rSet_yes hT hn m _ h1 hm (by unfold setM; rw [if_pos hm])
end
end Go.Proofs.YthhadjnffeadfaaGreatDoor
