/-
  read: parse, otherLevel, Decode.
-/
import Derived.Test.YtnaedcennichlaaGreatDoorRdDec
set_option linter.unusedSimpArgs false
set_option linter.unusedVariables false
namespace Go.Proofs.YtnaedcennichlaaGreatDoor
open Go.RowKit
set_option maxRecDepth 100000
@[go_sem] theorem ones_nil : ones (#[] : Array Value) = true := by simp [ones]
@[go_sem] theorem fold_Rw (l l' : List UInt8) (f f' : Bool) (R : Array Value) : Array.foldl (fun (cs : Array Value) (x : Value × Nat) => cs.setIfInBounds x.snd x.fst) (Rw l f R) (Rw l' f' #[]).zipIdx 0 2 = Rw l' f' R := by simp [Rw]
/-- A function's results: a packet and another one. -/
theorem ret_pk2 {fn : Func} {R : Ending → World → Prop} {a : Act} {w : World} (s u g : Nat) (p : Pk) (A : Option Addr) (n c : Nat) (v : Value) (hres : fn.results = #[.cell s 36, .tmp u])
    (hs : a.tmps.getD s undef = .pointer (some ⟨g, 0, none⟩)) (hrow : rowAt w g = PkC p A n c) (hu : a.tmps.getD u undef = v) (hd : a.defers = []) (hR : R (.returned (.tuple #[.agg (PkC p A n c), v])) w) : bodyPost Tryz.prog fn R .ret a w := by
  refine bodyPost_ret (v := .tuple #[.agg (PkC p A n c), v]) ?_ hd hR
  have h := loadVar_row (P := Tryz.prog) (ty := 36) (k := 24) (w := w) (by kernel_rfl) (by kernel_rfl) (by omega) g 0 (by rw [hrow]; simp)
  rw [hrow, Nat.zero_add, PkC_all] at h
  simp only [results, hres, hs, hu, List.mapM_toArray, List.mapM_cons, List.mapM_nil, Sem.run_bind, asAddr, Sem.run_pure, Result.andThen_ok, h]
  simp [h]
theorem ret_pk3 {fn : Func} {R : Ending → World → Prop} {a : Act} {w : World} (s u u2 g : Nat) (p : Pk) (A : Option Addr) (n c : Nat) (v v2 : Value) (hres : fn.results = #[.cell s 36, .tmp u, .tmp u2])
    (hs : a.tmps.getD s undef = .pointer (some ⟨g, 0, none⟩)) (hrow : rowAt w g = PkC p A n c) (hu : a.tmps.getD u undef = v) (hu2 : a.tmps.getD u2 undef = v2) (hd : a.defers = []) (hR : R (.returned (.tuple #[.agg (PkC p A n c), v, v2])) w) : bodyPost Tryz.prog fn R .ret a w := by
  refine bodyPost_ret (v := .tuple #[.agg (PkC p A n c), v, v2]) ?_ hd hR
  have h := loadVar_row (P := Tryz.prog) (ty := 36) (k := 24) (w := w) (by kernel_rfl) (by kernel_rfl) (by omega) g 0 (by rw [hrow]; simp)
  rw [hrow, Nat.zero_add, PkC_all] at h
  simp only [results, hres, hs, hu, hu2, List.mapM_toArray, List.mapM_cons, List.mapM_nil, Sem.run_bind, asAddr, Sem.run_pure, Result.andThen_ok, h]
  simp [h]
set_option maxHeartbeats 1000000 in
theorem other_any (c : Int) (l : List UInt8) (w : World) (h0 : 0 ≤ c) (h1 : c ≤ 255) (hl : l.length ≤ 1000000000) :
    Calls Tryz.prog 34 #[.int .u8 c, .string ⟨l.toArray⟩] w fun e w' => e = .returned (.tuple #[.int .u8 (othR c l).1, .bool (othR c l).2]) ∧ Below w.heap.size w w' := by
  have e1 : c.tdiv 16 = c / 16 := by rw [Int.tdiv_eq_ediv_of_nonneg h0]
  have hw1 : IntKind.u8.wrap (c / 16) = c / 16 := IntWalk.u8_in _ (by omega)
  have hK0 := (Kp.nil w).new (Rw l false #[]) 93
  have HO : Hid (othR c l = if c / 16 = 1 then if gtV (getR l) = nameL then if byF (gtL l (getR l)) false || byV (gtL l (getR l)) == 4 then (0, false) else (byV (gtL l (getR l)), true) else (0, false) else (0, false)) := rfl
  by_cases h16 : c / 16 = 1
  · have t1 : (c / 16 != 1) = false := by rw [h16]; rfl
    by_cases hn : gtV (getR l) = nameL
    · have e3 : (gtV (getR l) == [77, 81, 84, 84]) = true := by rw [hn]; rfl
      have hgf : gtF false (getR l) = false := by
        unfold gtF
        split
        · rfl
        · rename_i h2
          unfold gtV at hn
          rw [if_neg h2] at hn
          cases hn
      have HF := Lib.hid hgf
      rw [if_pos h16, if_pos hn] at HO
      clear hn hgf h16
      cases hb : byF (gtL l (getR l)) false with
      | true =>
        rw [hb, Bool.true_or, if_pos rfl] at HO
        rw [HO.out]
        have HB := Lib.hid hb
        clear hb
        go_enter Tryz.func34, Tryz.ntmps34
        go_wp2_with fail
        refine (rText hK0 (by simp) hl).mono ?_
        rintro e w1 ⟨rfl, hK1⟩
        rw [HF.out] at hK1
        go_wp2_with fail
        refine (rByte hK1 (by simp) (gt_bd hl)).mono ?_
        rintro e w2 ⟨rfl, hK2⟩
        rw [HB.out] at hK2
        have a1r := hK2.row; have a1f := hK2.free; have a1c := hK2.cell; have a1l := hK2.lt; have a1z := hK2.froz
        go_wp2_with fail
        go_ret2
        exact ⟨rfl, hK2.below⟩
      | false =>
        rw [hb, Bool.false_or] at HO
        have HB := Lib.hid hb
        clear hb
        cases h4 : (byV (gtL l (getR l)) == 4) with
        | true =>
          rw [h4, if_pos rfl] at HO
          rw [HO.out]
          go_enter Tryz.func34, Tryz.ntmps34
          go_wp2_with fail
          refine (rText hK0 (by simp) hl).mono ?_
          rintro e w1 ⟨rfl, hK1⟩
          rw [HF.out] at hK1
          go_wp2_with fail
          refine (rByte hK1 (by simp) (gt_bd hl)).mono ?_
          rintro e w2 ⟨rfl, hK2⟩
          rw [HB.out] at hK2
          have a1r := hK2.row; have a1f := hK2.free; have a1c := hK2.cell; have a1l := hK2.lt; have a1z := hK2.froz
          go_wp2_with fail
          go_ret2
          exact ⟨rfl, hK2.below⟩
        | false =>
          rw [h4, if_neg (by simp)] at HO
          rw [HO.out]
          go_enter Tryz.func34, Tryz.ntmps34
          go_wp2_with fail
          refine (rText hK0 (by simp) hl).mono ?_
          rintro e w1 ⟨rfl, hK1⟩
          rw [HF.out] at hK1
          go_wp2_with fail
          refine (rByte hK1 (by simp) (gt_bd hl)).mono ?_
          rintro e w2 ⟨rfl, hK2⟩
          rw [HB.out] at hK2
          have a1r := hK2.row; have a1f := hK2.free; have a1c := hK2.cell; have a1l := hK2.lt; have a1z := hK2.froz
          go_wp2_with fail
          go_ret2
          exact ⟨rfl, hK2.below⟩
    · have e3 : (gtV (getR l) == [77, 81, 84, 84]) = false := by rw [beq_eq_false_iff_ne]; exact hn
      rw [if_pos h16, if_neg hn] at HO
      rw [HO.out]
      clear hn h16
      go_enter Tryz.func34, Tryz.ntmps34
      go_wp2_with fail
      refine (rText hK0 (by simp) hl).mono ?_
      rintro e w1 ⟨rfl, hK1⟩
      go_wp2_with fail
      go_ret2
      exact ⟨rfl, hK1.below⟩
  · have t1 : (c / 16 != 1) = true := by simpa using h16
    rw [if_neg h16] at HO
    rw [HO.out]
    clear h16
    go_enter Tryz.func34, Tryz.ntmps34
    go_wp2_with fail
    go_ret2
    exact ⟨rfl, hK0.below⟩
theorem other_eq (c : Int) (l : List UInt8) (v : Int) (r : Bool) (w : World) (h0 : 0 ≤ c) (h1 : c ≤ 255) (hl : l.length ≤ 1000000000) (h : othR c l = (v, r)) :
    Calls Tryz.prog 34 #[.int .u8 c, .string ⟨l.toArray⟩] w fun e w' => e = .returned (.tuple #[.int .u8 v, .bool r]) ∧ Below w.heap.size w w' := by
  have := other_any c l w h0 h1 hl
  rw [h] at this
  exact this
end Go.Proofs.YtnaedcennichlaaGreatDoor
