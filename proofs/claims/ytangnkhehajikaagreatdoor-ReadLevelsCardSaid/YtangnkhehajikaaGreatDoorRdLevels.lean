/-
  ReadLevels.
-/
import Derived.Test.YtangnkhehajikaaGreatDoorRdBack
set_option linter.unusedSimpArgs false
set_option linter.unusedVariables false
namespace Go.Proofs.YtangnkhehajikaaGreatDoor
open Go.RowKit
set_option maxRecDepth 100000
namespace lawReadLevels
/-- The bytes of a CONNECT with any level, any name. -/
theorem lev_facts {p : Pk} {xs : List (List UInt8 × Int)} {S : List UInt8} (h : Ok p xs) (hf : Fit p xs) (h1 : totB p xs ≤ 10000) (h2 : xs.length ≤ 100) (ht : p.ty = 1) (hS : encL p xs = S) :
    ∃ (B : Nat) (H T : List UInt8), S = H ++ (fieldL nameL ++ (toB 4 :: T)) ∧ H.length = B ∧ 2 ≤ B ∧ (S.length : Int) - restN p xs = B ∧ S.length ≤ 20000 ∧ B + 7 ≤ S.length ∧ xs = [] ∧
      (∀ lv : Int, 0 ≤ lv → lv ≤ 255 → decR (H ++ (fieldL nameL ++ (toB lv :: T))) = ((if lv = 4 then p else (zPk.s_ty 1).s_level lv), [], (S.length : Int), 0)) ∧
      (∀ (lv : Int) (m : List UInt8), 0 ≤ lv → lv ≤ 255 → m.length = 6 → m ≠ fieldL nameL → decR (H ++ (m ++ (toB lv :: T))) = (zPk, [], 0, 4)) := by
  have hb := body_le h
  have he := enc_len h
  have hs := sizeF_bd (restN p xs)
  have hlo := h.lo
  obtain ⟨c0, c1, c2, _, c4⟩ := head_bd h hf.num'
  have hbl := body_len h
  have hll := lenL_size (restN p xs) h.lo h.hi
  have hx := nil_of h.none (by omega) (by omega)
  subst hx
  obtain ⟨T, hT⟩ : ∃ T, T = toB (cflN p) :: (wordL p.keep ++ (fieldL p.client ++ (willL p ++ (userL p ++ passL p)))) := ⟨_, rfl⟩
  have hbody : bodyL p [] = fieldL nameL ++ (toB 4 :: T) := by unfold bodyL; rw [if_pos ht, hT]; rfl
  obtain ⟨H, hH⟩ : ∃ H, H = toB (p.ty * 16 + flagsN p) :: lenL 3 (restN p []) := ⟨_, rfl⟩
  have hSS : S = H ++ (fieldL nameL ++ (toB 4 :: T)) := by rw [← hS, hH, ← hbody]; rfl
  have hHl : H.length = 1 + (lenL 3 (restN p [])).length := by rw [hH, List.length_cons]; omega
  rw [hbody] at hbl
  have h6 : (fieldL nameL).length = 6 := by decide
  rw [hS] at he
  simp only [List.length_append, List.length_cons, h6] at hbl
  refine ⟨H.length, H, T, hSS, rfl, by omega, by omega, by omega, by omega, rfl, fun lv l0 l1 => ?_, fun lv m l0 l1 hm hn => ?_⟩
  · by_cases h4 : lv = 4
    · subst h4
      rw [if_pos rfl, ← hSS, ← hS]
      have := dec_back h hf.num' []
      rw [List.append_nil] at this
      exact this
    · rw [if_neg h4, hH, List.cons_append]
      have hd := dec_level (p.ty * 16 + flagsN p) (restN p []) lv T c0 c1 c4 (by omega) (by simp only [List.length_append, List.length_cons, h6]; omega) h.hi l0 l1 h4
      rw [hd]
      have : 1 + sizeF (restN p []) + restN p [] = (S.length : Int) := by omega
      rw [this]
  · rw [hH, List.cons_append]
    exact dec_noname (p.ty * 16 + flagsN p) (restN p []) m (toB lv :: T) c0 c1 c4 (by omega) hm hn (by simp only [List.length_append, List.length_cons, hm]; omega) h.hi
theorem wrap_nat (n : Nat) (h : n ≤ 1000000) : wrap64 (n : Int) = n ∧ IntKind.i64.wrap (n : Int) = n ∧ (0 : Int) ≤ (n : Int) := ⟨IntWalk.wrap64_in _ (by omega), IntWalk.i64_in _ (by omega), by omega⟩
/-- A byte of the name is another one, or it is not. -/
theorem name_facts {H T X : List UInt8} {B r : Nat} {b v : UInt8} (hX : X = H ++ (fieldL nameL ++ (v :: T))) (hB : H.length = B) (hr : r < 6) :
    (X.take (B + r) ++ [b]) ++ X.drop (B + r + 1) = H ++ ((fieldL nameL).set r b ++ (v :: T)) := by
  have h6 : (fieldL nameL).length = 6 := by decide
  have hl : B + r < X.length := by rw [hX]; simp only [List.length_append, List.length_cons, h6, hB]; omega
  have hs := List.set_eq_take_append_cons_drop (l := X) (i := B + r) (a := b)
  rw [if_pos hl] at hs
  rw [List.append_assoc, List.singleton_append, ← hs, hX, List.set_append_right _ _ (by omega), hB, Nat.add_sub_cancel_left, List.set_append_left _ _ (by omega)]
theorem lev_split {H T S : List UInt8} {B : Nat} {v u : UInt8} (hS : S = H ++ (fieldL nameL ++ (v :: T))) (hB : H.length = B) : (S.take (B + 6) ++ [u]) ++ S.drop (B + 7) = H ++ (fieldL nameL ++ (u :: T)) := by
  have h6 : (fieldL nameL).length = 6 := by decide
  have e1 : S = (H ++ fieldL nameL) ++ (v :: T) := by rw [hS, List.append_assoc]
  have hl : (H ++ fieldL nameL).length = B + 6 := by rw [List.length_append, hB, h6]
  have e2 : S.drop (B + 7) = T := by
    rw [e1, show B + 7 = (H ++ fieldL nameL).length + 1 by omega, ← List.drop_drop, List.drop_left]; rfl
  have e3 : S.take (B + 6) = H ++ fieldL nameL := by rw [e1, ← hl, List.take_left]
  rw [e2, e3]
  simp
theorem law_u {U X : List UInt8} {H m T : List UInt8} {v : UInt8} (hU : U = H ++ (m ++ (v :: T))) (hX : X = H ++ (fieldL nameL ++ (v :: T))) (hm : m.length = 6) (hne : m ≠ fieldL nameL) : (U == X) = false := by
  rw [beq_eq_false_iff_ne, hU, hX]
  intro e
  exact hne (List.append_inj (List.append_cancel_left e) (by rw [hm]; decide)).1
set_option maxHeartbeats 8000000 in
theorem go_lev (w : World) (HG : Hid (Glo w)) (p : Pk) (A : Option Addr) (c : Nat) (HZ : Hid (A = none → c = 0)) (HC : Hid (Came p [])) (HF : Hid (Fit p [])) (hp1 : p.ty = 1) (lv le at_ : Int) (l0 : 0 ≤ lv) (l1 : lv ≤ 255) (k0 : 0 ≤ le) (k1 : le ≤ 255) (a0 : 0 ≤ at_) (a1 : at_ ≤ 255)
    (S X U : List UInt8) (v : Int) (B B6 B7 r K K1 : Nat) (hl4 : (lv == 4) = false) (HE : Hid (encR p [] = (S, 0))) (HV : Hid (restN p [] = v)) (HX : Hid (S.take B6 ++ toB lv :: S.drop B7 = X)) (HU : Hid (X.take K ++ toB le :: X.drop K1 = U)) (h6 : B6 = B + 6) (h7 : B7 = B + 7) (hK : K = B + r) (hK1 : K1 = B + r + 1) (hr : r < 6) (hat : at_ % 6 = (r : Int)) (hB : (S.length : Int) - v = (B : Int)) (hB2 : 2 ≤ B) (hB7 : B + 7 ≤ S.length) (hS2 : S.length ≤ 20000) (hXl : X.length = S.length)
    (HDX : Hid (decR X = (((zPk.s_ty 1).s_level lv), [], (X.length : Int), 0))) (Q : Pk) (nU eU : Int) (u0 : Bool) (HDU : Hid (decR U = (Q, [], nU, eU))) (hUX : (U == X) = u0) (heU : (eU == 0) = u0) (heU4 : u0 = false → (eU == 4) = true) (hUl : U.length = S.length) :
    Calls Tryz.prog 6 #[.agg (PkC p A 0 c), .int .u8 lv, .int .u8 le, .int .u8 at_] w fun e w' => e = .returned (.bool true) ∧ Below w.heap.size w w' := by
  have hK0 := (Kp.nil w).new (PkC p A 0 c) 27
  have z1 : (B : Int) + 6 = (B6 : Int) := by omega
  have z2 : (B : Int) + 7 = (B7 : Int) := by omega
  have z3 : (B : Int) + (r : Int) = (K : Int) := by omega
  have z4 : (K : Int) + 1 = (K1 : Int) := by omega
  have b6 : (B6 : Int) ≤ (S.length : Int) := by omega
  have b7 : (B7 : Int) ≤ (S.length : Int) := by omega
  have bk : (K : Int) ≤ (X.length : Int) := by omega
  have bk1 : (K1 : Int) ≤ (X.length : Int) := by omega
  have hat2 : at_.tmod 6 = (r : Int) := by rw [Int.tmod_eq_emod_of_nonneg a0]; exact hat
  have d1 : decide ((B : Int) < 2) = false := by simp; omega
  have d2 : decide ((S.length : Int) < (B7 : Int)) = false := by simp; omega
  have d3 : (p.ty != 1) = false := by rw [hp1]; rfl
  have hpt : (p.ty == 1) = true := by rw [hp1]; rfl
  have hcvX := Lib.hid (fun W g => conv_cell (P := Tryz.prog) (S := 9) Tryz.underlying44 Tryz.underlying5 Tryz.underlying9 W g lv (by omega) (by omega))
  have hadXa := fun W => add_str (P := Tryz.prog) W (S.take B6) [toB lv] (by simp; omega)
  have hadXb := fun W => add_str (P := Tryz.prog) W (S.take B6 ++ [toB lv]) (S.drop B7) (by simp; omega)
  have hcvU := Lib.hid (fun W g => conv_cell (P := Tryz.prog) (S := 9) Tryz.underlying44 Tryz.underlying5 Tryz.underlying9 W g le (by omega) (by omega))
  have hadUa := fun W => add_str (P := Tryz.prog) W (X.take K) [toB le] (by simp; omega)
  have hadUb := fun W => add_str (P := Tryz.prog) W (X.take K ++ [toB le]) (X.drop K1) (by simp; omega)
  have HP1 := Lib.hid hp1
  have HXL := Lib.hid hXl
  have q0 : B ≤ 1000000 := by omega
  have q1 : B6 ≤ 1000000 := by omega
  have q2 : B7 ≤ 1000000 := by omega
  have q3 : K ≤ 1000000 := by omega
  have q4 : K1 ≤ 1000000 := by omega
  have q5 : r ≤ 1000000 := by omega
  have hX9 : X.length ≤ 1000000000 := by omega
  have hU9 : U.length ≤ 1000000000 := by omega
  have hXc : (cutR X).1.length ≤ 90000 := Nat.le_trans (cut_len X) (by omega)
  have hUc : (cutR U).1.length ≤ 90000 := Nat.le_trans (cut_len U) (by omega)
  clear h6 h7 hK hK1 hXl hUl hp1
  go_enter Tryz.func6, Tryz.ntmps6
  go_wp2_with fail
  refine (great_any p A 0 c [] _ (Subs.nil _) HC.out).mono ?_
  rintro e w1 ⟨g, rfl, hgr, hb1⟩
  have hK1 := hK0.more hb1
  clear hb1 hK0 hgr
  have a1r := hK1.row; have a1f := hK1.free; have a1c := hK1.cell; have a1l := hK1.lt; have a1z := hK1.froz
  cases g with
  | true =>
    go_wp2_with fail
    refine (awake5_any _ (HG.out.below hK1.below)).mono ?_
    rintro e w2 ⟨rfl, hb2⟩
    go_wp2_with fail
    go_ret
    exact ⟨rfl, below_more hK1.below hb2⟩
  | false =>
    go_wp2_with fail
    refine (encode_eq p A 0 c [] S 0 _ (HG.out.below hK1.below) (Subs.nil _) HZ.out HF.out HE.out).mono ?_
    rintro e w3 ⟨rfl, hb3⟩
    have hK2 := hK1.more hb3
    clear hb3 hK1 a1r a1f a1c a1l a1z
    have a1r := hK2.row; have a1f := hK2.free; have a1c := hK2.cell; have a1l := hK2.lt; have a1z := hK2.froz
    go_wp2_with fail
    refine (rest_eq p A 0 c [] v _ (HG.out.below hK2.below) (Subs.nil _) HF.out HV.out).mono ?_
    rintro e w4 ⟨rfl, hb4⟩
    have hK3 := hK2.more hb4
    clear hb4 hK2 a1r a1f a1c a1l a1z
    go_wp2_with fail
    have hb := hK3.below
    have hK3d := hK3.drew
    obtain ⟨y0a, y0b, y0c⟩ := wrap_nat B (by assumption)
    obtain ⟨y1a, y1b, y1c⟩ := wrap_nat B6 (by assumption)
    obtain ⟨y2a, y2b, y2c⟩ := wrap_nat B7 (by assumption)
    refine wp_region_held_drew (S := (fun w' => Below w.heap.size w w')) (by kernel_rfl) (hb.drew) (fun hHeld => ?_)
    refine wpAnyH_take (i := 0) (oi := ({ dst := some 52, op := Go.Op.move (Go.Operand.tmp 9), type := 9, pos := "outright.go:96", after := #[], guard := none } : Oper)) (v := ?vv1_0) rfl (by kernel_rfl) (by kernel_rfl) (by kernel_rfl) (fun _ _ _ h => h) (Or.inl ⟨by rfl, ?hy1_0⟩) (by assumption) ?rest1_0
    case hy1_0 => (intro w hSw; (try dsimp only at hSw); (try go_split_ands); go_simp; all_goals with_reducible rfl)
    try simp only [Act.put, List.setIfInBounds_toArray, List.set_cons_zero, List.set_cons_succ]
    refine wpAnyH_take (i := 1) (oi := ({ dst := some 53, op := Go.Op.move (Go.Operand.tmp 11), type := 3, pos := "outright.go:96", after := #[], guard := none } : Oper)) (v := ?vv1_1) rfl (by kernel_rfl) (by kernel_rfl) (by kernel_rfl) (fun _ _ _ h => h) (Or.inl ⟨by rfl, ?hy1_1⟩) (by assumption) ?rest1_1
    case hy1_1 => (intro w hSw; (try dsimp only at hSw); (try go_split_ands); go_simp; all_goals with_reducible rfl)
    try simp only [Act.put, List.setIfInBounds_toArray, List.set_cons_zero, List.set_cons_succ]
    refine wpAnyH_take (i := 2) (oi := ({ dst := some 54, op := Go.Op.binOp Go.BinOp.add 3 (Go.Operand.tmp 53) (Go.Operand.const (Go.Value.int Go.IntKind.i64 6)) 3, type := 3, pos := "outright.go:96", after := #[{ on := 1, ground := Go.Ground.data }], guard := none } : Oper)) (v := ?vv1_2) rfl (by kernel_rfl) (by kernel_rfl) (by kernel_rfl) (fun _ _ _ h => h) (Or.inl ⟨by rfl, ?hy1_2⟩) (by assumption) ?rest1_2
    case hy1_2 => (intro w hSw; (try dsimp only at hSw); (try go_split_ands); go_simp; all_goals with_reducible rfl)
    try simp only [Act.put, List.setIfInBounds_toArray, List.set_cons_zero, List.set_cons_succ]
    refine wpAnyH_take (i := 3) (oi := ({ dst := some 55, op := Go.Op.slice 9 (Go.Operand.tmp 52) none (some (Go.Operand.tmp 54)) none, type := 9, pos := "outright.go:96", after := #[{ on := 0, ground := Go.Ground.data }, { on := 2, ground := Go.Ground.data }], guard := none } : Oper)) (v := ?vv1_3) rfl (by kernel_rfl) (by kernel_rfl) (by kernel_rfl) (fun _ _ _ h => h) (Or.inl ⟨by rfl, ?hy1_3⟩) (by assumption) ?rest1_3
    case hy1_3 => (intro w hSw; (try dsimp only at hSw); (try go_split_ands); go_simp; all_goals with_reducible rfl)
    try simp only [Act.put, List.setIfInBounds_toArray, List.set_cons_zero, List.set_cons_succ]
    refine wpAnyH_take (i := 4) (oi := ({ dst := some 56, op := Go.Op.move (Go.Operand.tmp 1), type := 5, pos := "outright.go:96", after := #[], guard := none } : Oper)) (v := ?vv1_4) rfl (by kernel_rfl) (by kernel_rfl) (by kernel_rfl) (fun _ _ _ h => h) (Or.inl ⟨by rfl, ?hy1_4⟩) (by assumption) ?rest1_4
    case hy1_4 => (intro w hSw; (try dsimp only at hSw); (try go_split_ands); go_simp; all_goals with_reducible rfl)
    try simp only [Act.put, List.setIfInBounds_toArray, List.set_cons_zero, List.set_cons_succ]
    refine wpAnyH_take (i := 8) (oi := ({ dst := some 60, op := Go.Op.move (Go.Operand.tmp 9), type := 9, pos := "outright.go:96", after := #[], guard := none } : Oper)) (v := ?vv1_8) rfl (by kernel_rfl) (by kernel_rfl) (by kernel_rfl) (fun _ _ _ h => h) (Or.inl ⟨by rfl, ?hy1_8⟩) (by assumption) ?rest1_8
    case hy1_8 => (intro w hSw; (try dsimp only at hSw); (try go_split_ands); go_simp; all_goals with_reducible rfl)
    try simp only [Act.put, List.setIfInBounds_toArray, List.set_cons_zero, List.set_cons_succ]
    refine wpAnyH_take (i := 9) (oi := ({ dst := some 61, op := Go.Op.move (Go.Operand.tmp 11), type := 3, pos := "outright.go:96", after := #[], guard := none } : Oper)) (v := ?vv1_9) rfl (by kernel_rfl) (by kernel_rfl) (by kernel_rfl) (fun _ _ _ h => h) (Or.inl ⟨by rfl, ?hy1_9⟩) (by assumption) ?rest1_9
    case hy1_9 => (intro w hSw; (try dsimp only at hSw); (try go_split_ands); go_simp; all_goals with_reducible rfl)
    try simp only [Act.put, List.setIfInBounds_toArray, List.set_cons_zero, List.set_cons_succ]
    refine wpAnyH_take (i := 10) (oi := ({ dst := some 62, op := Go.Op.binOp Go.BinOp.add 3 (Go.Operand.tmp 61) (Go.Operand.const (Go.Value.int Go.IntKind.i64 7)) 3, type := 3, pos := "outright.go:96", after := #[{ on := 9, ground := Go.Ground.data }], guard := none } : Oper)) (v := ?vv1_10) rfl (by kernel_rfl) (by kernel_rfl) (by kernel_rfl) (fun _ _ _ h => h) (Or.inl ⟨by rfl, ?hy1_10⟩) (by assumption) ?rest1_10
    case hy1_10 => (intro w hSw; (try dsimp only at hSw); (try go_split_ands); go_simp; all_goals with_reducible rfl)
    try simp only [Act.put, List.setIfInBounds_toArray, List.set_cons_zero, List.set_cons_succ]
    refine wpAnyH_take (i := 11) (oi := ({ dst := some 63, op := Go.Op.slice 9 (Go.Operand.tmp 60) (some (Go.Operand.tmp 62)) none none, type := 9, pos := "outright.go:96", after := #[{ on := 8, ground := Go.Ground.data }, { on := 10, ground := Go.Ground.data }], guard := none } : Oper)) (v := ?vv1_11) rfl (by kernel_rfl) (by kernel_rfl) (by kernel_rfl) (fun _ _ _ h => h) (Or.inl ⟨by rfl, ?hy1_11⟩) (by assumption) ?rest1_11
    case hy1_11 => (intro w hSw; (try dsimp only at hSw); (try go_split_ands); go_simp; all_goals with_reducible rfl)
    try simp only [Act.put, List.setIfInBounds_toArray, List.set_cons_zero, List.set_cons_succ]
    refine wpAnyH_ready (rs := [5]) (by kernel_rfl) (by simp) ?_
    refine AllReadyH.cons (o := ({ dst := some 57, op := Go.Op.buildSlice 44 1 #[(0, Go.Operand.tmp 56)], type := 44, pos := "outright.go:96", after := #[{ on := 4, ground := Go.Ground.data }], guard := none } : Oper)) rfl (fun K hK => ?_) AllReadyH.nil
    go_simp
    refine hK.out _ _ ?_ (fun hHeld => ?_)
    · (exact below_alloc hHeld _)
    clear hK K
    try simp only [Act.put, List.setIfInBounds_toArray, List.set_cons_zero, List.set_cons_succ]
    refine wpAnyH_more (S2 := fun w' => Below w.heap.size w w' ∧ w'.cell? ⟨w4.heap.size, 0, none⟩ = some (.int .u8 lv)) (fun _ h => h.1) ⟨hHeld, World.cell?_alloc_new _ _ _ _⟩ (fun hHeld2 => ?_)
    clear hHeld
    have hHeld := hHeld2
    clear hHeld2
    refine wpAnyH_take (i := 6) (oi := ({ dst := some 58, op := Go.Op.convert 44 9 (Go.Operand.tmp 57), type := 9, pos := "outright.go:96", after := #[{ on := 5, ground := Go.Ground.data }], guard := none } : Oper)) (v := ?vv1_6) rfl (by kernel_rfl) (by kernel_rfl) (by kernel_rfl) (fun _ _ _ h => h) (Or.inl ⟨by rfl, ?hy1_6⟩) (by assumption) ?rest1_6
    case hy1_6 => (intro w hSw; (try dsimp only at hSw); have hq := hcvX.out w _ hSw.2; clear hSw; go_simp; all_goals with_reducible rfl)
    try simp only [Act.put, List.setIfInBounds_toArray, List.set_cons_zero, List.set_cons_succ]
    refine wpAnyH_take (i := 7) (oi := ({ dst := some 59, op := Go.Op.binOp Go.BinOp.add 9 (Go.Operand.tmp 55) (Go.Operand.tmp 58) 9, type := 9, pos := "outright.go:96", after := #[{ on := 3, ground := Go.Ground.data }, { on := 6, ground := Go.Ground.data }], guard := none } : Oper)) (v := ?vv1_7) rfl (by kernel_rfl) (by kernel_rfl) (by kernel_rfl) (fun _ _ _ h => h) (Or.inl ⟨by rfl, ?hy1_7⟩) (by assumption) ?rest1_7
    case hy1_7 => (intro w hSw; (try dsimp only at hSw); (try go_split_ands); go_simp; all_goals with_reducible rfl)
    try simp only [Act.put, List.setIfInBounds_toArray, List.set_cons_zero, List.set_cons_succ]
    refine wpAnyH_take (i := 12) (oi := ({ dst := some 64, op := Go.Op.binOp Go.BinOp.add 9 (Go.Operand.tmp 59) (Go.Operand.tmp 63) 9, type := 9, pos := "outright.go:96", after := #[{ on := 7, ground := Go.Ground.data }, { on := 11, ground := Go.Ground.data }], guard := none } : Oper)) (v := ?vv1_12) rfl (by kernel_rfl) (by kernel_rfl) (by kernel_rfl) (fun _ _ _ h => h) (Or.inl ⟨by rfl, ?hy1_12⟩) (by assumption) ?rest1_12
    case hy1_12 => (intro w hSw; (try dsimp only at hSw); (try go_split_ands); go_simp; all_goals with_reducible rfl)
    try simp only [Act.put, List.setIfInBounds_toArray, List.set_cons_zero, List.set_cons_succ]
    refine wpAnyH_take (i := 13) (oi := ({ dst := some 12, op := Go.Op.assign (Go.Operand.tmp 64), type := 9, pos := "outright.go:96", after := #[{ on := 12, ground := Go.Ground.data }, { on := 0, ground := Go.Ground.phase }, { on := 1, ground := Go.Ground.phase }, { on := 2, ground := Go.Ground.phase }, { on := 3, ground := Go.Ground.phase }, { on := 4, ground := Go.Ground.phase }, { on := 5, ground := Go.Ground.phase }, { on := 6, ground := Go.Ground.phase }, { on := 7, ground := Go.Ground.phase }, { on := 8, ground := Go.Ground.phase }, { on := 9, ground := Go.Ground.phase }, { on := 10, ground := Go.Ground.phase }, { on := 11, ground := Go.Ground.phase }, { on := 12, ground := Go.Ground.phase }], guard := none } : Oper)) (v := ?vv1_13) rfl (by kernel_rfl) (by kernel_rfl) (by kernel_rfl) (fun _ _ _ h => h) (Or.inl ⟨by rfl, ?hy1_13⟩) (by assumption) ?rest1_13
    case hy1_13 => (intro w hSw; (try dsimp only at hSw); (try go_split_ands); go_simp; all_goals with_reducible rfl)
    try simp only [Act.put, List.setIfInBounds_toArray, List.set_cons_zero, List.set_cons_succ]
    refine wpAnyH_done (by kernel_rfl) ?_ _
    clear y0a y0b y0c y1a y1b y1c y2a y2b y2c
    rw [HX.out]
    have hK5 := ((hK3.new #[.int .u8 lv] 5).tail).drew
    obtain ⟨w5, hw5⟩ : ∃ w5, w5 = (w4.alloc (.cells #[.int .u8 lv] 5)).drew := ⟨_, rfl⟩
    rw [← hw5] at hK5 ⊢
    clear hw5 hHeld hb hK3 hK3d
    go_wp2_with fail
    refine (decode_eq X ((zPk.s_ty 1).s_level lv) [] X.length 0 _ (HG.out.below hK5.below) hX9 hXc HDX.out).mono ?_
    rintro e w6 ⟨B2, d, rfl, hb6, _, _, _⟩
    have hK6 := hK5.more hb6
    clear hb6 hK5
    have hK7 := (hK6.new (PkC ((zPk.s_ty 1).s_level lv) B2 0 d) 27).new (PkC ((zPk.s_ty 1).s_level lv) none 0 0) 27
    have hb := hK7.below
    have a1r := hK6.row; have a1f := hK6.free; have a1c := hK6.cell; have a1l := hK6.lt; have a1z := hK6.froz
    clear hK6 hK7
    go_wp2_with fail
    have heq : Hid ((eqPk ((zPk.s_ty 1).s_level lv) ((zPk.s_ty 1).s_level lv) && ([] : List (List UInt8 × Int)) == []) = true) := by show _ = _; rw [(eqPk_iff _ _).2 rfl]; rfl
    refine (same_eq ((zPk.s_ty 1).s_level lv) ((zPk.s_ty 1).s_level lv) B2 none 0 d 0 0 [] [] true _ (Subs.nil _) (Subs.nil _) (by decide) heq.out).mono ?_
    rintro e w7 ⟨rfl, hb7⟩
    replace hb := below_more hb hb7
    clear hb7 a1r a1f a1c a1l a1z heq
    go_wp2_with fail
    obtain ⟨y3a, y3b, y3c⟩ := wrap_nat K (by assumption)
    obtain ⟨y4a, y4b, y4c⟩ := wrap_nat K1 (by assumption)
    refine wp_region_held_drew (S := (fun w' => Below w.heap.size w w')) (by kernel_rfl) (hb.drew) (fun hHeld => ?_)
    refine wpAnyH_take (i := 0) (oi := ({ dst := some 95, op := Go.Op.move (Go.Operand.tmp 12), type := 9, pos := "outright.go:106", after := #[], guard := none } : Oper)) (v := ?vv2_0) rfl (by kernel_rfl) (by kernel_rfl) (by kernel_rfl) (fun _ _ _ h => h) (Or.inl ⟨by rfl, ?hy2_0⟩) (by assumption) ?rest2_0
    case hy2_0 => (intro w hSw; (try dsimp only at hSw); (try go_split_ands); go_simp; all_goals with_reducible rfl)
    try simp only [Act.put, List.setIfInBounds_toArray, List.set_cons_zero, List.set_cons_succ]
    refine wpAnyH_take (i := 1) (oi := ({ dst := some 96, op := Go.Op.move (Go.Operand.tmp 17), type := 3, pos := "outright.go:106", after := #[], guard := none } : Oper)) (v := ?vv2_1) rfl (by kernel_rfl) (by kernel_rfl) (by kernel_rfl) (fun _ _ _ h => h) (Or.inl ⟨by rfl, ?hy2_1⟩) (by assumption) ?rest2_1
    case hy2_1 => (intro w hSw; (try dsimp only at hSw); (try go_split_ands); go_simp; all_goals with_reducible rfl)
    try simp only [Act.put, List.setIfInBounds_toArray, List.set_cons_zero, List.set_cons_succ]
    refine wpAnyH_take (i := 2) (oi := ({ dst := some 97, op := Go.Op.slice 9 (Go.Operand.tmp 95) none (some (Go.Operand.tmp 96)) none, type := 9, pos := "outright.go:106", after := #[{ on := 0, ground := Go.Ground.data }, { on := 1, ground := Go.Ground.data }], guard := none } : Oper)) (v := ?vv2_2) rfl (by kernel_rfl) (by kernel_rfl) (by kernel_rfl) (fun _ _ _ h => h) (Or.inl ⟨by rfl, ?hy2_2⟩) (by assumption) ?rest2_2
    case hy2_2 => (intro w hSw; (try dsimp only at hSw); (try go_split_ands); go_simp; all_goals with_reducible rfl)
    try simp only [Act.put, List.setIfInBounds_toArray, List.set_cons_zero, List.set_cons_succ]
    refine wpAnyH_take (i := 3) (oi := ({ dst := some 98, op := Go.Op.move (Go.Operand.tmp 2), type := 5, pos := "outright.go:106", after := #[], guard := none } : Oper)) (v := ?vv2_3) rfl (by kernel_rfl) (by kernel_rfl) (by kernel_rfl) (fun _ _ _ h => h) (Or.inl ⟨by rfl, ?hy2_3⟩) (by assumption) ?rest2_3
    case hy2_3 => (intro w hSw; (try dsimp only at hSw); (try go_split_ands); go_simp; all_goals with_reducible rfl)
    try simp only [Act.put, List.setIfInBounds_toArray, List.set_cons_zero, List.set_cons_succ]
    refine wpAnyH_take (i := 7) (oi := ({ dst := some 102, op := Go.Op.move (Go.Operand.tmp 12), type := 9, pos := "outright.go:106", after := #[], guard := none } : Oper)) (v := ?vv2_7) rfl (by kernel_rfl) (by kernel_rfl) (by kernel_rfl) (fun _ _ _ h => h) (Or.inl ⟨by rfl, ?hy2_7⟩) (by assumption) ?rest2_7
    case hy2_7 => (intro w hSw; (try dsimp only at hSw); (try go_split_ands); go_simp; all_goals with_reducible rfl)
    try simp only [Act.put, List.setIfInBounds_toArray, List.set_cons_zero, List.set_cons_succ]
    refine wpAnyH_take (i := 8) (oi := ({ dst := some 103, op := Go.Op.move (Go.Operand.tmp 17), type := 3, pos := "outright.go:106", after := #[], guard := none } : Oper)) (v := ?vv2_8) rfl (by kernel_rfl) (by kernel_rfl) (by kernel_rfl) (fun _ _ _ h => h) (Or.inl ⟨by rfl, ?hy2_8⟩) (by assumption) ?rest2_8
    case hy2_8 => (intro w hSw; (try dsimp only at hSw); (try go_split_ands); go_simp; all_goals with_reducible rfl)
    try simp only [Act.put, List.setIfInBounds_toArray, List.set_cons_zero, List.set_cons_succ]
    refine wpAnyH_take (i := 9) (oi := ({ dst := some 104, op := Go.Op.binOp Go.BinOp.add 3 (Go.Operand.tmp 103) (Go.Operand.const (Go.Value.int Go.IntKind.i64 1)) 3, type := 3, pos := "outright.go:106", after := #[{ on := 8, ground := Go.Ground.data }], guard := none } : Oper)) (v := ?vv2_9) rfl (by kernel_rfl) (by kernel_rfl) (by kernel_rfl) (fun _ _ _ h => h) (Or.inl ⟨by rfl, ?hy2_9⟩) (by assumption) ?rest2_9
    case hy2_9 => (intro w hSw; (try dsimp only at hSw); (try go_split_ands); go_simp; all_goals with_reducible rfl)
    try simp only [Act.put, List.setIfInBounds_toArray, List.set_cons_zero, List.set_cons_succ]
    refine wpAnyH_take (i := 10) (oi := ({ dst := some 105, op := Go.Op.slice 9 (Go.Operand.tmp 102) (some (Go.Operand.tmp 104)) none none, type := 9, pos := "outright.go:106", after := #[{ on := 7, ground := Go.Ground.data }, { on := 9, ground := Go.Ground.data }], guard := none } : Oper)) (v := ?vv2_10) rfl (by kernel_rfl) (by kernel_rfl) (by kernel_rfl) (fun _ _ _ h => h) (Or.inl ⟨by rfl, ?hy2_10⟩) (by assumption) ?rest2_10
    case hy2_10 => (intro w hSw; (try dsimp only at hSw); (try go_split_ands); go_simp; all_goals with_reducible rfl)
    try simp only [Act.put, List.setIfInBounds_toArray, List.set_cons_zero, List.set_cons_succ]
    refine wpAnyH_ready (rs := [4]) (by kernel_rfl) (by simp) ?_
    refine AllReadyH.cons (o := ({ dst := some 99, op := Go.Op.buildSlice 44 1 #[(0, Go.Operand.tmp 98)], type := 44, pos := "outright.go:106", after := #[{ on := 3, ground := Go.Ground.data }], guard := none } : Oper)) rfl (fun K hK => ?_) AllReadyH.nil
    go_simp
    refine hK.out _ _ ?_ (fun hHeld => ?_)
    · (exact below_alloc hHeld _)
    clear hK K
    try simp only [Act.put, List.setIfInBounds_toArray, List.set_cons_zero, List.set_cons_succ]
    refine wpAnyH_more (S2 := fun w' => Below w.heap.size w w' ∧ w'.cell? ⟨w7.heap.size, 0, none⟩ = some (.int .u8 le)) (fun _ h => h.1) ⟨hHeld, World.cell?_alloc_new _ _ _ _⟩ (fun hHeld2 => ?_)
    clear hHeld
    have hHeld := hHeld2
    clear hHeld2
    refine wpAnyH_take (i := 5) (oi := ({ dst := some 100, op := Go.Op.convert 44 9 (Go.Operand.tmp 99), type := 9, pos := "outright.go:106", after := #[{ on := 4, ground := Go.Ground.data }], guard := none } : Oper)) (v := ?vv2_5) rfl (by kernel_rfl) (by kernel_rfl) (by kernel_rfl) (fun _ _ _ h => h) (Or.inl ⟨by rfl, ?hy2_5⟩) (by assumption) ?rest2_5
    case hy2_5 => (intro w hSw; (try dsimp only at hSw); have hq := hcvU.out w _ hSw.2; clear hSw; go_simp; all_goals with_reducible rfl)
    try simp only [Act.put, List.setIfInBounds_toArray, List.set_cons_zero, List.set_cons_succ]
    refine wpAnyH_take (i := 6) (oi := ({ dst := some 101, op := Go.Op.binOp Go.BinOp.add 9 (Go.Operand.tmp 97) (Go.Operand.tmp 100) 9, type := 9, pos := "outright.go:106", after := #[{ on := 2, ground := Go.Ground.data }, { on := 5, ground := Go.Ground.data }], guard := none } : Oper)) (v := ?vv2_6) rfl (by kernel_rfl) (by kernel_rfl) (by kernel_rfl) (fun _ _ _ h => h) (Or.inl ⟨by rfl, ?hy2_6⟩) (by assumption) ?rest2_6
    case hy2_6 => (intro w hSw; (try dsimp only at hSw); (try go_split_ands); go_simp; all_goals with_reducible rfl)
    try simp only [Act.put, List.setIfInBounds_toArray, List.set_cons_zero, List.set_cons_succ]
    refine wpAnyH_take (i := 11) (oi := ({ dst := some 106, op := Go.Op.binOp Go.BinOp.add 9 (Go.Operand.tmp 101) (Go.Operand.tmp 105) 9, type := 9, pos := "outright.go:106", after := #[{ on := 6, ground := Go.Ground.data }, { on := 10, ground := Go.Ground.data }], guard := none } : Oper)) (v := ?vv2_11) rfl (by kernel_rfl) (by kernel_rfl) (by kernel_rfl) (fun _ _ _ h => h) (Or.inl ⟨by rfl, ?hy2_11⟩) (by assumption) ?rest2_11
    case hy2_11 => (intro w hSw; (try dsimp only at hSw); (try go_split_ands); go_simp; all_goals with_reducible rfl)
    try simp only [Act.put, List.setIfInBounds_toArray, List.set_cons_zero, List.set_cons_succ]
    refine wpAnyH_take (i := 12) (oi := ({ dst := some 18, op := Go.Op.assign (Go.Operand.tmp 106), type := 9, pos := "outright.go:106", after := #[{ on := 11, ground := Go.Ground.data }, { on := 0, ground := Go.Ground.phase }, { on := 1, ground := Go.Ground.phase }, { on := 2, ground := Go.Ground.phase }, { on := 3, ground := Go.Ground.phase }, { on := 4, ground := Go.Ground.phase }, { on := 5, ground := Go.Ground.phase }, { on := 6, ground := Go.Ground.phase }, { on := 7, ground := Go.Ground.phase }, { on := 8, ground := Go.Ground.phase }, { on := 9, ground := Go.Ground.phase }, { on := 10, ground := Go.Ground.phase }, { on := 11, ground := Go.Ground.phase }], guard := none } : Oper)) (v := ?vv2_12) rfl (by kernel_rfl) (by kernel_rfl) (by kernel_rfl) (fun _ _ _ h => h) (Or.inl ⟨by rfl, ?hy2_12⟩) (by assumption) ?rest2_12
    case hy2_12 => (intro w hSw; (try dsimp only at hSw); (try go_split_ands); go_simp; all_goals with_reducible rfl)
    try simp only [Act.put, List.setIfInBounds_toArray, List.set_cons_zero, List.set_cons_succ]
    refine wpAnyH_done (by kernel_rfl) ?_ _
    clear y3a y3b y3c y4a y4b y4c
    rw [HU.out]
    replace hb := hHeld.1
    clear hHeld
    obtain ⟨w8, hw8⟩ : ∃ w8, w8 = (w7.alloc (.cells #[.int .u8 le] 5)).drew := ⟨_, rfl⟩
    rw [← hw8] at hb ⊢
    clear hw8
    go_wp2_with fail
    refine (decode_eq U Q [] nU eU _ (HG.out.below hb) hU9 hUc HDU.out).mono ?_
    rintro e w9 ⟨B3, d3, rfl, hb9, _, _, _⟩
    replace hb := below_more hb hb9
    have hb10 := below_alloc hb (.cells (PkC Q B3 0 d3) 27)
    clear hb9 hb
    cases u0
    all_goals
      try have heU5 := heU4 rfl
      clear heU4
      go_wp2_with fail
      refine (awake5_any _ (HG.out.below hb10)).mono ?_
      rintro e w11 ⟨rfl, hb11⟩
      go_wp2_with fail
      go_ret
      exact ⟨rfl, below_more hb10 hb11⟩
set_option maxHeartbeats 8000000 in
theorem go_four (w : World) (HG : Hid (Glo w)) (p : Pk) (A : Option Addr) (c : Nat) (HZ : Hid (A = none → c = 0)) (HC : Hid (Came p [])) (HF : Hid (Fit p [])) (hp1 : p.ty = 1) (lv le at_ : Int) (l0 : 0 ≤ lv) (l1 : lv ≤ 255) (k0 : 0 ≤ le) (k1 : le ≤ 255) (a0 : 0 ≤ at_) (a1 : at_ ≤ 255)
    (S X U : List UInt8) (v : Int) (B B6 B7 r K K1 : Nat) (hl4 : (lv == 4) = true) (HE : Hid (encR p [] = (S, 0))) (HV : Hid (restN p [] = v)) (HX : Hid (S.take B6 ++ toB lv :: S.drop B7 = X)) (HU : Hid (X.take K ++ toB le :: X.drop K1 = U)) (h6 : B6 = B + 6) (h7 : B7 = B + 7) (hK : K = B + r) (hK1 : K1 = B + r + 1) (hr : r < 6) (hat : at_ % 6 = (r : Int)) (hB : (S.length : Int) - v = (B : Int)) (hB2 : 2 ≤ B) (hB7 : B + 7 ≤ S.length) (hS2 : S.length ≤ 20000) (hXl : X.length = S.length)
    (HDX : Hid (decR X = (p, [], (X.length : Int), 0))) (Q : Pk) (nU eU : Int) (u0 : Bool) (HDU : Hid (decR U = (Q, [], nU, eU))) (hUX : (U == X) = u0) (heU : (eU == 0) = u0) (heU4 : u0 = false → (eU == 4) = true) (hUl : U.length = S.length) :
    Calls Tryz.prog 6 #[.agg (PkC p A 0 c), .int .u8 lv, .int .u8 le, .int .u8 at_] w fun e w' => e = .returned (.bool true) ∧ Below w.heap.size w w' := by
  have hK0 := (Kp.nil w).new (PkC p A 0 c) 27
  have z1 : (B : Int) + 6 = (B6 : Int) := by omega
  have z2 : (B : Int) + 7 = (B7 : Int) := by omega
  have z3 : (B : Int) + (r : Int) = (K : Int) := by omega
  have z4 : (K : Int) + 1 = (K1 : Int) := by omega
  have b6 : (B6 : Int) ≤ (S.length : Int) := by omega
  have b7 : (B7 : Int) ≤ (S.length : Int) := by omega
  have bk : (K : Int) ≤ (X.length : Int) := by omega
  have bk1 : (K1 : Int) ≤ (X.length : Int) := by omega
  have hat2 : at_.tmod 6 = (r : Int) := by rw [Int.tmod_eq_emod_of_nonneg a0]; exact hat
  have d1 : decide ((B : Int) < 2) = false := by simp; omega
  have d2 : decide ((S.length : Int) < (B7 : Int)) = false := by simp; omega
  have d3 : (p.ty != 1) = false := by rw [hp1]; rfl
  have hpt : (p.ty == 1) = true := by rw [hp1]; rfl
  have hcvX := Lib.hid (fun W g => conv_cell (P := Tryz.prog) (S := 9) Tryz.underlying44 Tryz.underlying5 Tryz.underlying9 W g lv (by omega) (by omega))
  have hadXa := fun W => add_str (P := Tryz.prog) W (S.take B6) [toB lv] (by simp; omega)
  have hadXb := fun W => add_str (P := Tryz.prog) W (S.take B6 ++ [toB lv]) (S.drop B7) (by simp; omega)
  have hcvU := Lib.hid (fun W g => conv_cell (P := Tryz.prog) (S := 9) Tryz.underlying44 Tryz.underlying5 Tryz.underlying9 W g le (by omega) (by omega))
  have hadUa := fun W => add_str (P := Tryz.prog) W (X.take K) [toB le] (by simp; omega)
  have hadUb := fun W => add_str (P := Tryz.prog) W (X.take K ++ [toB le]) (X.drop K1) (by simp; omega)
  have HP1 := Lib.hid hp1
  have HXL := Lib.hid hXl
  have q0 : B ≤ 1000000 := by omega
  have q1 : B6 ≤ 1000000 := by omega
  have q2 : B7 ≤ 1000000 := by omega
  have q3 : K ≤ 1000000 := by omega
  have q4 : K1 ≤ 1000000 := by omega
  have q5 : r ≤ 1000000 := by omega
  have hX9 : X.length ≤ 1000000000 := by omega
  have hU9 : U.length ≤ 1000000000 := by omega
  have hXc : (cutR X).1.length ≤ 90000 := Nat.le_trans (cut_len X) (by omega)
  have hUc : (cutR U).1.length ≤ 90000 := Nat.le_trans (cut_len U) (by omega)
  clear h6 h7 hK hK1 hXl hUl hp1
  go_enter Tryz.func6, Tryz.ntmps6
  go_wp2_with fail
  refine (great_any p A 0 c [] _ (Subs.nil _) HC.out).mono ?_
  rintro e w1 ⟨g, rfl, hgr, hb1⟩
  have hK1 := hK0.more hb1
  clear hb1 hK0 hgr
  have a1r := hK1.row; have a1f := hK1.free; have a1c := hK1.cell; have a1l := hK1.lt; have a1z := hK1.froz
  cases g with
  | true =>
    go_wp2_with fail
    refine (awake5_any _ (HG.out.below hK1.below)).mono ?_
    rintro e w2 ⟨rfl, hb2⟩
    go_wp2_with fail
    go_ret
    exact ⟨rfl, below_more hK1.below hb2⟩
  | false =>
    go_wp2_with fail
    refine (encode_eq p A 0 c [] S 0 _ (HG.out.below hK1.below) (Subs.nil _) HZ.out HF.out HE.out).mono ?_
    rintro e w3 ⟨rfl, hb3⟩
    have hK2 := hK1.more hb3
    clear hb3 hK1 a1r a1f a1c a1l a1z
    have a1r := hK2.row; have a1f := hK2.free; have a1c := hK2.cell; have a1l := hK2.lt; have a1z := hK2.froz
    go_wp2_with fail
    refine (rest_eq p A 0 c [] v _ (HG.out.below hK2.below) (Subs.nil _) HF.out HV.out).mono ?_
    rintro e w4 ⟨rfl, hb4⟩
    have hK3 := hK2.more hb4
    clear hb4 hK2 a1r a1f a1c a1l a1z
    go_wp2_with fail
    have hb := hK3.below
    have hK3d := hK3.drew
    obtain ⟨y0a, y0b, y0c⟩ := wrap_nat B (by assumption)
    obtain ⟨y1a, y1b, y1c⟩ := wrap_nat B6 (by assumption)
    obtain ⟨y2a, y2b, y2c⟩ := wrap_nat B7 (by assumption)
    refine wp_region_held_drew (S := (fun w' => Below w.heap.size w w')) (by kernel_rfl) (hb.drew) (fun hHeld => ?_)
    refine wpAnyH_take (i := 0) (oi := ({ dst := some 52, op := Go.Op.move (Go.Operand.tmp 9), type := 9, pos := "outright.go:96", after := #[], guard := none } : Oper)) (v := ?vv3_0) rfl (by kernel_rfl) (by kernel_rfl) (by kernel_rfl) (fun _ _ _ h => h) (Or.inl ⟨by rfl, ?hy3_0⟩) (by assumption) ?rest3_0
    case hy3_0 => (intro w hSw; (try dsimp only at hSw); (try go_split_ands); go_simp; all_goals with_reducible rfl)
    try simp only [Act.put, List.setIfInBounds_toArray, List.set_cons_zero, List.set_cons_succ]
    refine wpAnyH_take (i := 1) (oi := ({ dst := some 53, op := Go.Op.move (Go.Operand.tmp 11), type := 3, pos := "outright.go:96", after := #[], guard := none } : Oper)) (v := ?vv3_1) rfl (by kernel_rfl) (by kernel_rfl) (by kernel_rfl) (fun _ _ _ h => h) (Or.inl ⟨by rfl, ?hy3_1⟩) (by assumption) ?rest3_1
    case hy3_1 => (intro w hSw; (try dsimp only at hSw); (try go_split_ands); go_simp; all_goals with_reducible rfl)
    try simp only [Act.put, List.setIfInBounds_toArray, List.set_cons_zero, List.set_cons_succ]
    refine wpAnyH_take (i := 2) (oi := ({ dst := some 54, op := Go.Op.binOp Go.BinOp.add 3 (Go.Operand.tmp 53) (Go.Operand.const (Go.Value.int Go.IntKind.i64 6)) 3, type := 3, pos := "outright.go:96", after := #[{ on := 1, ground := Go.Ground.data }], guard := none } : Oper)) (v := ?vv3_2) rfl (by kernel_rfl) (by kernel_rfl) (by kernel_rfl) (fun _ _ _ h => h) (Or.inl ⟨by rfl, ?hy3_2⟩) (by assumption) ?rest3_2
    case hy3_2 => (intro w hSw; (try dsimp only at hSw); (try go_split_ands); go_simp; all_goals with_reducible rfl)
    try simp only [Act.put, List.setIfInBounds_toArray, List.set_cons_zero, List.set_cons_succ]
    refine wpAnyH_take (i := 3) (oi := ({ dst := some 55, op := Go.Op.slice 9 (Go.Operand.tmp 52) none (some (Go.Operand.tmp 54)) none, type := 9, pos := "outright.go:96", after := #[{ on := 0, ground := Go.Ground.data }, { on := 2, ground := Go.Ground.data }], guard := none } : Oper)) (v := ?vv3_3) rfl (by kernel_rfl) (by kernel_rfl) (by kernel_rfl) (fun _ _ _ h => h) (Or.inl ⟨by rfl, ?hy3_3⟩) (by assumption) ?rest3_3
    case hy3_3 => (intro w hSw; (try dsimp only at hSw); (try go_split_ands); go_simp; all_goals with_reducible rfl)
    try simp only [Act.put, List.setIfInBounds_toArray, List.set_cons_zero, List.set_cons_succ]
    refine wpAnyH_take (i := 4) (oi := ({ dst := some 56, op := Go.Op.move (Go.Operand.tmp 1), type := 5, pos := "outright.go:96", after := #[], guard := none } : Oper)) (v := ?vv3_4) rfl (by kernel_rfl) (by kernel_rfl) (by kernel_rfl) (fun _ _ _ h => h) (Or.inl ⟨by rfl, ?hy3_4⟩) (by assumption) ?rest3_4
    case hy3_4 => (intro w hSw; (try dsimp only at hSw); (try go_split_ands); go_simp; all_goals with_reducible rfl)
    try simp only [Act.put, List.setIfInBounds_toArray, List.set_cons_zero, List.set_cons_succ]
    refine wpAnyH_take (i := 8) (oi := ({ dst := some 60, op := Go.Op.move (Go.Operand.tmp 9), type := 9, pos := "outright.go:96", after := #[], guard := none } : Oper)) (v := ?vv3_8) rfl (by kernel_rfl) (by kernel_rfl) (by kernel_rfl) (fun _ _ _ h => h) (Or.inl ⟨by rfl, ?hy3_8⟩) (by assumption) ?rest3_8
    case hy3_8 => (intro w hSw; (try dsimp only at hSw); (try go_split_ands); go_simp; all_goals with_reducible rfl)
    try simp only [Act.put, List.setIfInBounds_toArray, List.set_cons_zero, List.set_cons_succ]
    refine wpAnyH_take (i := 9) (oi := ({ dst := some 61, op := Go.Op.move (Go.Operand.tmp 11), type := 3, pos := "outright.go:96", after := #[], guard := none } : Oper)) (v := ?vv3_9) rfl (by kernel_rfl) (by kernel_rfl) (by kernel_rfl) (fun _ _ _ h => h) (Or.inl ⟨by rfl, ?hy3_9⟩) (by assumption) ?rest3_9
    case hy3_9 => (intro w hSw; (try dsimp only at hSw); (try go_split_ands); go_simp; all_goals with_reducible rfl)
    try simp only [Act.put, List.setIfInBounds_toArray, List.set_cons_zero, List.set_cons_succ]
    refine wpAnyH_take (i := 10) (oi := ({ dst := some 62, op := Go.Op.binOp Go.BinOp.add 3 (Go.Operand.tmp 61) (Go.Operand.const (Go.Value.int Go.IntKind.i64 7)) 3, type := 3, pos := "outright.go:96", after := #[{ on := 9, ground := Go.Ground.data }], guard := none } : Oper)) (v := ?vv3_10) rfl (by kernel_rfl) (by kernel_rfl) (by kernel_rfl) (fun _ _ _ h => h) (Or.inl ⟨by rfl, ?hy3_10⟩) (by assumption) ?rest3_10
    case hy3_10 => (intro w hSw; (try dsimp only at hSw); (try go_split_ands); go_simp; all_goals with_reducible rfl)
    try simp only [Act.put, List.setIfInBounds_toArray, List.set_cons_zero, List.set_cons_succ]
    refine wpAnyH_take (i := 11) (oi := ({ dst := some 63, op := Go.Op.slice 9 (Go.Operand.tmp 60) (some (Go.Operand.tmp 62)) none none, type := 9, pos := "outright.go:96", after := #[{ on := 8, ground := Go.Ground.data }, { on := 10, ground := Go.Ground.data }], guard := none } : Oper)) (v := ?vv3_11) rfl (by kernel_rfl) (by kernel_rfl) (by kernel_rfl) (fun _ _ _ h => h) (Or.inl ⟨by rfl, ?hy3_11⟩) (by assumption) ?rest3_11
    case hy3_11 => (intro w hSw; (try dsimp only at hSw); (try go_split_ands); go_simp; all_goals with_reducible rfl)
    try simp only [Act.put, List.setIfInBounds_toArray, List.set_cons_zero, List.set_cons_succ]
    refine wpAnyH_ready (rs := [5]) (by kernel_rfl) (by simp) ?_
    refine AllReadyH.cons (o := ({ dst := some 57, op := Go.Op.buildSlice 44 1 #[(0, Go.Operand.tmp 56)], type := 44, pos := "outright.go:96", after := #[{ on := 4, ground := Go.Ground.data }], guard := none } : Oper)) rfl (fun K hK => ?_) AllReadyH.nil
    go_simp
    refine hK.out _ _ ?_ (fun hHeld => ?_)
    · (exact below_alloc hHeld _)
    clear hK K
    try simp only [Act.put, List.setIfInBounds_toArray, List.set_cons_zero, List.set_cons_succ]
    refine wpAnyH_more (S2 := fun w' => Below w.heap.size w w' ∧ w'.cell? ⟨w4.heap.size, 0, none⟩ = some (.int .u8 lv)) (fun _ h => h.1) ⟨hHeld, World.cell?_alloc_new _ _ _ _⟩ (fun hHeld2 => ?_)
    clear hHeld
    have hHeld := hHeld2
    clear hHeld2
    refine wpAnyH_take (i := 6) (oi := ({ dst := some 58, op := Go.Op.convert 44 9 (Go.Operand.tmp 57), type := 9, pos := "outright.go:96", after := #[{ on := 5, ground := Go.Ground.data }], guard := none } : Oper)) (v := ?vv3_6) rfl (by kernel_rfl) (by kernel_rfl) (by kernel_rfl) (fun _ _ _ h => h) (Or.inl ⟨by rfl, ?hy3_6⟩) (by assumption) ?rest3_6
    case hy3_6 => (intro w hSw; (try dsimp only at hSw); have hq := hcvX.out w _ hSw.2; clear hSw; go_simp; all_goals with_reducible rfl)
    try simp only [Act.put, List.setIfInBounds_toArray, List.set_cons_zero, List.set_cons_succ]
    refine wpAnyH_take (i := 7) (oi := ({ dst := some 59, op := Go.Op.binOp Go.BinOp.add 9 (Go.Operand.tmp 55) (Go.Operand.tmp 58) 9, type := 9, pos := "outright.go:96", after := #[{ on := 3, ground := Go.Ground.data }, { on := 6, ground := Go.Ground.data }], guard := none } : Oper)) (v := ?vv3_7) rfl (by kernel_rfl) (by kernel_rfl) (by kernel_rfl) (fun _ _ _ h => h) (Or.inl ⟨by rfl, ?hy3_7⟩) (by assumption) ?rest3_7
    case hy3_7 => (intro w hSw; (try dsimp only at hSw); (try go_split_ands); go_simp; all_goals with_reducible rfl)
    try simp only [Act.put, List.setIfInBounds_toArray, List.set_cons_zero, List.set_cons_succ]
    refine wpAnyH_take (i := 12) (oi := ({ dst := some 64, op := Go.Op.binOp Go.BinOp.add 9 (Go.Operand.tmp 59) (Go.Operand.tmp 63) 9, type := 9, pos := "outright.go:96", after := #[{ on := 7, ground := Go.Ground.data }, { on := 11, ground := Go.Ground.data }], guard := none } : Oper)) (v := ?vv3_12) rfl (by kernel_rfl) (by kernel_rfl) (by kernel_rfl) (fun _ _ _ h => h) (Or.inl ⟨by rfl, ?hy3_12⟩) (by assumption) ?rest3_12
    case hy3_12 => (intro w hSw; (try dsimp only at hSw); (try go_split_ands); go_simp; all_goals with_reducible rfl)
    try simp only [Act.put, List.setIfInBounds_toArray, List.set_cons_zero, List.set_cons_succ]
    refine wpAnyH_take (i := 13) (oi := ({ dst := some 12, op := Go.Op.assign (Go.Operand.tmp 64), type := 9, pos := "outright.go:96", after := #[{ on := 12, ground := Go.Ground.data }, { on := 0, ground := Go.Ground.phase }, { on := 1, ground := Go.Ground.phase }, { on := 2, ground := Go.Ground.phase }, { on := 3, ground := Go.Ground.phase }, { on := 4, ground := Go.Ground.phase }, { on := 5, ground := Go.Ground.phase }, { on := 6, ground := Go.Ground.phase }, { on := 7, ground := Go.Ground.phase }, { on := 8, ground := Go.Ground.phase }, { on := 9, ground := Go.Ground.phase }, { on := 10, ground := Go.Ground.phase }, { on := 11, ground := Go.Ground.phase }, { on := 12, ground := Go.Ground.phase }], guard := none } : Oper)) (v := ?vv3_13) rfl (by kernel_rfl) (by kernel_rfl) (by kernel_rfl) (fun _ _ _ h => h) (Or.inl ⟨by rfl, ?hy3_13⟩) (by assumption) ?rest3_13
    case hy3_13 => (intro w hSw; (try dsimp only at hSw); (try go_split_ands); go_simp; all_goals with_reducible rfl)
    try simp only [Act.put, List.setIfInBounds_toArray, List.set_cons_zero, List.set_cons_succ]
    refine wpAnyH_done (by kernel_rfl) ?_ _
    clear y0a y0b y0c y1a y1b y1c y2a y2b y2c
    rw [HX.out]
    have hK5 := ((hK3.new #[.int .u8 lv] 5).tail).drew
    obtain ⟨w5, hw5⟩ : ∃ w5, w5 = (w4.alloc (.cells #[.int .u8 lv] 5)).drew := ⟨_, rfl⟩
    rw [← hw5] at hK5 ⊢
    clear hw5 hHeld hb hK3 hK3d
    go_wp2_with fail
    refine (decode_eq X p [] X.length 0 _ (HG.out.below hK5.below) hX9 hXc HDX.out).mono ?_
    rintro e w6 ⟨B2, d, rfl, hb6, _, _, _⟩
    have hK6 := hK5.more hb6
    clear hb6 hK5
    have hK7 := (hK6.new (PkC p B2 0 d) 27).new (PkC p A 0 c) 27
    have hb := hK7.below
    have a1r := hK6.row; have a1f := hK6.free; have a1c := hK6.cell; have a1l := hK6.lt; have a1z := hK6.froz
    clear hK6 hK7
    go_wp2_with fail
    have heq : Hid ((eqPk p p && ([] : List (List UInt8 × Int)) == []) = true) := by show _ = _; rw [(eqPk_iff _ _).2 rfl]; rfl
    refine (same_eq p p B2 A 0 d 0 c [] [] true _ (Subs.nil _) (Subs.nil _) (by decide) heq.out).mono ?_
    rintro e w7 ⟨rfl, hb7⟩
    replace hb := below_more hb hb7
    clear hb7 a1r a1f a1c a1l a1z heq
    go_wp2_with fail
    obtain ⟨y3a, y3b, y3c⟩ := wrap_nat K (by assumption)
    obtain ⟨y4a, y4b, y4c⟩ := wrap_nat K1 (by assumption)
    refine wp_region_held_drew (S := (fun w' => Below w.heap.size w w')) (by kernel_rfl) (hb.drew) (fun hHeld => ?_)
    refine wpAnyH_take (i := 0) (oi := ({ dst := some 95, op := Go.Op.move (Go.Operand.tmp 12), type := 9, pos := "outright.go:106", after := #[], guard := none } : Oper)) (v := ?vv4_0) rfl (by kernel_rfl) (by kernel_rfl) (by kernel_rfl) (fun _ _ _ h => h) (Or.inl ⟨by rfl, ?hy4_0⟩) (by assumption) ?rest4_0
    case hy4_0 => (intro w hSw; (try dsimp only at hSw); (try go_split_ands); go_simp; all_goals with_reducible rfl)
    try simp only [Act.put, List.setIfInBounds_toArray, List.set_cons_zero, List.set_cons_succ]
    refine wpAnyH_take (i := 1) (oi := ({ dst := some 96, op := Go.Op.move (Go.Operand.tmp 17), type := 3, pos := "outright.go:106", after := #[], guard := none } : Oper)) (v := ?vv4_1) rfl (by kernel_rfl) (by kernel_rfl) (by kernel_rfl) (fun _ _ _ h => h) (Or.inl ⟨by rfl, ?hy4_1⟩) (by assumption) ?rest4_1
    case hy4_1 => (intro w hSw; (try dsimp only at hSw); (try go_split_ands); go_simp; all_goals with_reducible rfl)
    try simp only [Act.put, List.setIfInBounds_toArray, List.set_cons_zero, List.set_cons_succ]
    refine wpAnyH_take (i := 2) (oi := ({ dst := some 97, op := Go.Op.slice 9 (Go.Operand.tmp 95) none (some (Go.Operand.tmp 96)) none, type := 9, pos := "outright.go:106", after := #[{ on := 0, ground := Go.Ground.data }, { on := 1, ground := Go.Ground.data }], guard := none } : Oper)) (v := ?vv4_2) rfl (by kernel_rfl) (by kernel_rfl) (by kernel_rfl) (fun _ _ _ h => h) (Or.inl ⟨by rfl, ?hy4_2⟩) (by assumption) ?rest4_2
    case hy4_2 => (intro w hSw; (try dsimp only at hSw); (try go_split_ands); go_simp; all_goals with_reducible rfl)
    try simp only [Act.put, List.setIfInBounds_toArray, List.set_cons_zero, List.set_cons_succ]
    refine wpAnyH_take (i := 3) (oi := ({ dst := some 98, op := Go.Op.move (Go.Operand.tmp 2), type := 5, pos := "outright.go:106", after := #[], guard := none } : Oper)) (v := ?vv4_3) rfl (by kernel_rfl) (by kernel_rfl) (by kernel_rfl) (fun _ _ _ h => h) (Or.inl ⟨by rfl, ?hy4_3⟩) (by assumption) ?rest4_3
    case hy4_3 => (intro w hSw; (try dsimp only at hSw); (try go_split_ands); go_simp; all_goals with_reducible rfl)
    try simp only [Act.put, List.setIfInBounds_toArray, List.set_cons_zero, List.set_cons_succ]
    refine wpAnyH_take (i := 7) (oi := ({ dst := some 102, op := Go.Op.move (Go.Operand.tmp 12), type := 9, pos := "outright.go:106", after := #[], guard := none } : Oper)) (v := ?vv4_7) rfl (by kernel_rfl) (by kernel_rfl) (by kernel_rfl) (fun _ _ _ h => h) (Or.inl ⟨by rfl, ?hy4_7⟩) (by assumption) ?rest4_7
    case hy4_7 => (intro w hSw; (try dsimp only at hSw); (try go_split_ands); go_simp; all_goals with_reducible rfl)
    try simp only [Act.put, List.setIfInBounds_toArray, List.set_cons_zero, List.set_cons_succ]
    refine wpAnyH_take (i := 8) (oi := ({ dst := some 103, op := Go.Op.move (Go.Operand.tmp 17), type := 3, pos := "outright.go:106", after := #[], guard := none } : Oper)) (v := ?vv4_8) rfl (by kernel_rfl) (by kernel_rfl) (by kernel_rfl) (fun _ _ _ h => h) (Or.inl ⟨by rfl, ?hy4_8⟩) (by assumption) ?rest4_8
    case hy4_8 => (intro w hSw; (try dsimp only at hSw); (try go_split_ands); go_simp; all_goals with_reducible rfl)
    try simp only [Act.put, List.setIfInBounds_toArray, List.set_cons_zero, List.set_cons_succ]
    refine wpAnyH_take (i := 9) (oi := ({ dst := some 104, op := Go.Op.binOp Go.BinOp.add 3 (Go.Operand.tmp 103) (Go.Operand.const (Go.Value.int Go.IntKind.i64 1)) 3, type := 3, pos := "outright.go:106", after := #[{ on := 8, ground := Go.Ground.data }], guard := none } : Oper)) (v := ?vv4_9) rfl (by kernel_rfl) (by kernel_rfl) (by kernel_rfl) (fun _ _ _ h => h) (Or.inl ⟨by rfl, ?hy4_9⟩) (by assumption) ?rest4_9
    case hy4_9 => (intro w hSw; (try dsimp only at hSw); (try go_split_ands); go_simp; all_goals with_reducible rfl)
    try simp only [Act.put, List.setIfInBounds_toArray, List.set_cons_zero, List.set_cons_succ]
    refine wpAnyH_take (i := 10) (oi := ({ dst := some 105, op := Go.Op.slice 9 (Go.Operand.tmp 102) (some (Go.Operand.tmp 104)) none none, type := 9, pos := "outright.go:106", after := #[{ on := 7, ground := Go.Ground.data }, { on := 9, ground := Go.Ground.data }], guard := none } : Oper)) (v := ?vv4_10) rfl (by kernel_rfl) (by kernel_rfl) (by kernel_rfl) (fun _ _ _ h => h) (Or.inl ⟨by rfl, ?hy4_10⟩) (by assumption) ?rest4_10
    case hy4_10 => (intro w hSw; (try dsimp only at hSw); (try go_split_ands); go_simp; all_goals with_reducible rfl)
    try simp only [Act.put, List.setIfInBounds_toArray, List.set_cons_zero, List.set_cons_succ]
    refine wpAnyH_ready (rs := [4]) (by kernel_rfl) (by simp) ?_
    refine AllReadyH.cons (o := ({ dst := some 99, op := Go.Op.buildSlice 44 1 #[(0, Go.Operand.tmp 98)], type := 44, pos := "outright.go:106", after := #[{ on := 3, ground := Go.Ground.data }], guard := none } : Oper)) rfl (fun K hK => ?_) AllReadyH.nil
    go_simp
    refine hK.out _ _ ?_ (fun hHeld => ?_)
    · (exact below_alloc hHeld _)
    clear hK K
    try simp only [Act.put, List.setIfInBounds_toArray, List.set_cons_zero, List.set_cons_succ]
    refine wpAnyH_more (S2 := fun w' => Below w.heap.size w w' ∧ w'.cell? ⟨w7.heap.size, 0, none⟩ = some (.int .u8 le)) (fun _ h => h.1) ⟨hHeld, World.cell?_alloc_new _ _ _ _⟩ (fun hHeld2 => ?_)
    clear hHeld
    have hHeld := hHeld2
    clear hHeld2
    refine wpAnyH_take (i := 5) (oi := ({ dst := some 100, op := Go.Op.convert 44 9 (Go.Operand.tmp 99), type := 9, pos := "outright.go:106", after := #[{ on := 4, ground := Go.Ground.data }], guard := none } : Oper)) (v := ?vv4_5) rfl (by kernel_rfl) (by kernel_rfl) (by kernel_rfl) (fun _ _ _ h => h) (Or.inl ⟨by rfl, ?hy4_5⟩) (by assumption) ?rest4_5
    case hy4_5 => (intro w hSw; (try dsimp only at hSw); have hq := hcvU.out w _ hSw.2; clear hSw; go_simp; all_goals with_reducible rfl)
    try simp only [Act.put, List.setIfInBounds_toArray, List.set_cons_zero, List.set_cons_succ]
    refine wpAnyH_take (i := 6) (oi := ({ dst := some 101, op := Go.Op.binOp Go.BinOp.add 9 (Go.Operand.tmp 97) (Go.Operand.tmp 100) 9, type := 9, pos := "outright.go:106", after := #[{ on := 2, ground := Go.Ground.data }, { on := 5, ground := Go.Ground.data }], guard := none } : Oper)) (v := ?vv4_6) rfl (by kernel_rfl) (by kernel_rfl) (by kernel_rfl) (fun _ _ _ h => h) (Or.inl ⟨by rfl, ?hy4_6⟩) (by assumption) ?rest4_6
    case hy4_6 => (intro w hSw; (try dsimp only at hSw); (try go_split_ands); go_simp; all_goals with_reducible rfl)
    try simp only [Act.put, List.setIfInBounds_toArray, List.set_cons_zero, List.set_cons_succ]
    refine wpAnyH_take (i := 11) (oi := ({ dst := some 106, op := Go.Op.binOp Go.BinOp.add 9 (Go.Operand.tmp 101) (Go.Operand.tmp 105) 9, type := 9, pos := "outright.go:106", after := #[{ on := 6, ground := Go.Ground.data }, { on := 10, ground := Go.Ground.data }], guard := none } : Oper)) (v := ?vv4_11) rfl (by kernel_rfl) (by kernel_rfl) (by kernel_rfl) (fun _ _ _ h => h) (Or.inl ⟨by rfl, ?hy4_11⟩) (by assumption) ?rest4_11
    case hy4_11 => (intro w hSw; (try dsimp only at hSw); (try go_split_ands); go_simp; all_goals with_reducible rfl)
    try simp only [Act.put, List.setIfInBounds_toArray, List.set_cons_zero, List.set_cons_succ]
    refine wpAnyH_take (i := 12) (oi := ({ dst := some 18, op := Go.Op.assign (Go.Operand.tmp 106), type := 9, pos := "outright.go:106", after := #[{ on := 11, ground := Go.Ground.data }, { on := 0, ground := Go.Ground.phase }, { on := 1, ground := Go.Ground.phase }, { on := 2, ground := Go.Ground.phase }, { on := 3, ground := Go.Ground.phase }, { on := 4, ground := Go.Ground.phase }, { on := 5, ground := Go.Ground.phase }, { on := 6, ground := Go.Ground.phase }, { on := 7, ground := Go.Ground.phase }, { on := 8, ground := Go.Ground.phase }, { on := 9, ground := Go.Ground.phase }, { on := 10, ground := Go.Ground.phase }, { on := 11, ground := Go.Ground.phase }], guard := none } : Oper)) (v := ?vv4_12) rfl (by kernel_rfl) (by kernel_rfl) (by kernel_rfl) (fun _ _ _ h => h) (Or.inl ⟨by rfl, ?hy4_12⟩) (by assumption) ?rest4_12
    case hy4_12 => (intro w hSw; (try dsimp only at hSw); (try go_split_ands); go_simp; all_goals with_reducible rfl)
    try simp only [Act.put, List.setIfInBounds_toArray, List.set_cons_zero, List.set_cons_succ]
    refine wpAnyH_done (by kernel_rfl) ?_ _
    clear y3a y3b y3c y4a y4b y4c
    rw [HU.out]
    replace hb := hHeld.1
    clear hHeld
    obtain ⟨w8, hw8⟩ : ∃ w8, w8 = (w7.alloc (.cells #[.int .u8 le] 5)).drew := ⟨_, rfl⟩
    rw [← hw8] at hb ⊢
    clear hw8
    go_wp2_with fail
    refine (decode_eq U Q [] nU eU _ (HG.out.below hb) hU9 hUc HDU.out).mono ?_
    rintro e w9 ⟨B3, d3, rfl, hb9, _, _, _⟩
    replace hb := below_more hb hb9
    have hb10 := below_alloc hb (.cells (PkC Q B3 0 d3) 27)
    clear hb9 hb
    cases u0
    all_goals
      try have heU5 := heU4 rfl
      clear heU4
      go_wp2_with fail
      refine (awake5_any _ (HG.out.below hb10)).mono ?_
      rintro e w11 ⟨rfl, hb11⟩
      go_wp2_with fail
      go_ret
      exact ⟨rfl, below_more hb10 hb11⟩
theorem enc_no {p : Pk} {xs : List (List UInt8 × Int)} (h : ¬ 0 ≤ restN p xs) : encR p xs = ([], 4) := by unfold encR; rw [if_neg h]
set_option maxHeartbeats 4000000 in
theorem walk (w : World) (hG : Glo w) (p : Pk) (A : Option Addr) (n c : Nat) (xs : List (List UInt8 × Int)) (hs : Subs w A n xs) (hc : A = none → c = 0) (hp : Came p xs)
    (lv : Int) (hlv : (Lit.int .u8 lv).wf = true) (le : Int) (hle : (Lit.int .u8 le).wf = true) (at_ : Int) (hat : (Lit.int .u8 at_).wf = true) :
    Calls Tryz.prog 6 #[.agg (PkC p A n c), .int .u8 lv, .int .u8 le, .int .u8 at_] w fun e w' => e = .returned (.bool true) ∧ Below w.heap.size w w' := by
  have bl := u8_bd lv hlv
  have be := u8_bd le hle
  have ba := u8_bd at_ hat
  have HG := Lib.hid hG
  have HS := Lib.hid hs
  have HC := Lib.hid hp
  have HZ := Lib.hid hc
  clear hG hs hp hc hlv hle hat
  by_cases hbig : totB p xs ≤ 10000 ∧ xs.length ≤ 100 ∧ p.ty = 1 ∧ 0 ≤ restN p xs
  · obtain ⟨h1, h2, hty, h0⟩ := hbig
    have hF := fit_came HC.out h1 h2
    have hO := ok_of h0
    obtain ⟨S, hS⟩ : ∃ S, encL p xs = S := ⟨_, rfl⟩
    have hE : encR p xs = (S, 0) := by unfold encR; rw [if_pos h0, hS]
    obtain ⟨B, H, T, hSS, hHB, hB2, hBv, hS2, hB7, rfl, hdl, hdn⟩ := lev_facts hO hF h1 h2 hty hS
    have hn0 : n = 0 := by have := HS.out.len; simpa using this.symm
    subst hn0
    obtain ⟨X, hX⟩ : ∃ X, X = H ++ (fieldL nameL ++ (toB lv :: T)) := ⟨_, rfl⟩
    have hlX := lev_split (u := toB lv) hSS hHB
    rw [← hX, List.append_assoc, List.singleton_append] at hlX
    have h6 : (fieldL nameL).length = 6 := by decide
    have hXl : X.length = S.length := by rw [hX, hSS]; simp only [List.length_append, List.length_cons]
    obtain ⟨r, hr1, hr2⟩ : ∃ r : Nat, at_ % 6 = r ∧ r < 6 := ⟨(at_ % 6).toNat, by omega, by omega⟩
    have hnf := name_facts (b := toB le) hX hHB hr2
    rw [List.append_assoc, List.singleton_append] at hnf
    obtain ⟨m, hm⟩ : ∃ m, m = (fieldL nameL).set r (toB le) := ⟨_, rfl⟩
    obtain ⟨U, hU⟩ : ∃ U, U = H ++ (m ++ (toB lv :: T)) := ⟨_, rfl⟩
    rw [← hm, ← hU] at hnf
    have hml : m.length = 6 := by rw [hm, List.length_set, h6]
    have hUl : U.length = S.length := by rw [hU, hSS]; simp only [List.length_append, List.length_cons, hml, h6]
    have hDX := hdl lv bl.1 bl.2
    rw [← hX, ← hXl] at hDX
    have hu : ∃ (Q : Pk) (nU eU : Int) (u0 : Bool), decR U = (Q, [], nU, eU) ∧ (U == X) = u0 ∧ (eU == 0) = u0 ∧ (u0 = false → (eU == 4) = true) := by
      by_cases hme : m = fieldL nameL
      · have hUX : U = X := by rw [hU, hX, hme]
        refine ⟨_, _, _, true, by rw [hUX]; exact hDX, by rw [hUX]; simp, rfl, fun h => by cases h⟩
      · exact ⟨zPk, 0, 4, false, by rw [hU]; exact hdn lv m bl.1 bl.2 hml hme, law_u hU hX hml hme, rfl, fun _ => rfl⟩
    obtain ⟨Q, nU, eU, u0, hDU, hUX, heU, heU4⟩ := hu
    cases h4 : (lv == 4) with
    | true =>
      have h4' : lv = 4 := by simpa using h4
      rw [if_pos h4'] at hDX
      exact go_four w HG p A c HZ HC hF hty lv le at_ bl.1 bl.2 be.1 be.2 ba.1 ba.2 S X U (restN p []) B (B + 6) (B + 7) r (B + r) (B + r + 1) h4 hE rfl hlX hnf rfl rfl rfl rfl hr2 hr1 hBv hB2 hB7 hS2 hXl hDX Q nU eU u0 hDU hUX heU heU4 hUl
    | false =>
      have h4' : ¬ lv = 4 := by simpa using h4
      rw [if_neg h4'] at hDX
      exact go_lev w HG p A c HZ HC hF hty lv le at_ bl.1 bl.2 be.1 be.2 ba.1 ba.2 S X U (restN p []) B (B + 6) (B + 7) r (B + r) (B + r + 1) h4 hE rfl hlX hnf rfl rfl rfl rfl hr2 hr1 hBv hB2 hB7 hS2 hXl hDX Q nU eU u0 hDU hUX heU heU4 hUl
  · have HBIG := Lib.hid hbig
    clear hbig
    have hK0 := (Kp.nil w).new (PkC p A n c) 27
    cases ht : (p.ty == 1)
    all_goals
      have HTY := Lib.hid ht
      go_enter Tryz.func6, Tryz.ntmps6
      go_wp2_with fail
      refine (great_any p A n c xs _ (HS.out.below hK0.below) HC.out).mono ?_
      rintro e w1 ⟨g, rfl, hgr, hb1⟩
      have hK1 := hK0.more hb1
      clear hb1 hK0
      have a1r := hK1.row; have a1f := hK1.free; have a1c := hK1.cell; have a1l := hK1.lt; have a1z := hK1.froz
      cases g with
      | true =>
        clear hgr
        go_wp2_with fail
        refine (awake5_any _ (HG.out.below hK1.below)).mono ?_
        rintro e w2 ⟨rfl, hb2⟩
        go_wp2_with fail
        go_ret
        exact ⟨rfl, below_more hK1.below hb2⟩
      | false =>
        have hgf := Lib.hid (hgr rfl)
        clear hgr
        go_wp2_with fail
        first
        | (refine (awake5_any _ (HG.out.below hK1.below)).mono ?_
           rintro e w2 ⟨rfl, hb2⟩
           go_wp2_with fail
           go_ret
           exact ⟨rfl, below_more hK1.below hb2⟩)
        | (have hF := fit_came HC.out hgf.out.1 hgf.out.2
           have hno : ¬ 0 ≤ restN p xs := fun h0 => HBIG.out ⟨hgf.out.1, hgf.out.2, by have := HTY.out; simpa using this, h0⟩
           have HE := Lib.hid (enc_no hno)
           have HF := Lib.hid hF
           clear hno hF
           refine (encode_eq p A n c xs [] 4 _ (HG.out.below hK1.below) (HS.out.below hK1.below) HZ.out HF.out HE.out).mono ?_
           rintro e w3 ⟨rfl, hb3⟩
           have hb4 := below_more hK1.below hb3
           clear hb3 hK1 a1r a1f a1c a1l a1z
           go_wp2_with fail
           refine (awake5_any _ (HG.out.below hb4)).mono ?_
           rintro e w5 ⟨rfl, hb5⟩
           go_wp2_with fail
           go_ret
           exact ⟨rfl, below_more hb4 hb5⟩)
end lawReadLevels
end Go.Proofs.YtangnkhehajikaaGreatDoor
