/-
  PacketKnown.
-/
import Derived.Test.YtbbmfhelncedcaaDoorPkK2
import Derived.Test.YtbbmfhelncedcaaDoorPkKM
import Derived.Deep.Cut
import Derived.Deep.DeepCutAuto
set_option linter.unusedSimpArgs false
set_option linter.unusedVariables false
namespace Go.Proofs.YtbbmfhelncedcaaDoor
open Go.RowKit
theorem Strs.is {w w' : World} {g n k : Nat} {xs : List (List UInt8)} {x : List UInt8} (h : Strs w (some ⟨g, 0, none⟩) n xs) (hb : Below w.heap.size w w') (hx : xs[k]? = some x) : w'.cell? ⟨g, k, none⟩ = some (.string ⟨x.toArray⟩) := by
  obtain ⟨y, hy, hc⟩ := (h.below hb).at0 (k := k) (by rw [← h.len]; exact (List.getElem?_eq_some_iff.1 hx).1)
  rw [hx] at hy
  cases hy
  exact hc
namespace lawPacketKnown
@[go_sem] theorem sb2_set (x y : List UInt8) (a b q : Int) : (SbC x a ++ SbC y b).setIfInBounds 1 (.int .u8 q) = SbC x q ++ SbC y b := by simp [SbC]
theorem fold2 (x y : List UInt8) (a b : Int) : Array.foldl (fun (cs : Array Value) (x : Value × Nat) => cs.setIfInBounds (2 + x.snd) x.fst) (Array.foldl (fun (cs : Array Value) (x : Value × Nat) => cs.setIfInBounds x.snd x.fst) #[.string ⟨#[]⟩, .int .u8 0, .string ⟨#[]⟩, .int .u8 0] (SbC x a).zipIdx 0 2) (SbC y b).zipIdx 0 2 = SbC x a ++ SbC y b := by simp [SbC]
theorem kp5 {w w2 : World} {D : Nat → Bool} {G : Nat → Nat} (hR : R2 w D G w2) (hD : ∀ j, j < 15 → D j = true) :
    Kp w [(G 0, PkC awC none 0 0, 27), (G 1, PkC awC none 0 0, 27), (G 2, PkC awC none 0 0, 27), (G 3, PkC awC none 0 0, 27), (G 4, PkC awC none 0 0, 27)] w2 := by
  refine ⟨fun x hx => ?_, hR.c.below⟩
  have hb : ∀ j, j < 5 → w.heap.size ≤ G j ∧ w2.heap[G j]? = some (.cells (PkC awC none 0 0) 27 (0, 0)) := by
    intro j hj
    obtain ⟨h1, h2⟩ := hR.blk j hj (hD _ (by omega))
    rw [if_pos (hD _ (by omega))] at h2
    exact ⟨by omega, h2⟩
  simp only [List.mem_cons, List.not_mem_nil, or_false] at hx
  rcases hx with rfl | rfl | rfl | rfl | rfl
  · exact hb 0 (by omega)
  · exact hb 1 (by omega)
  · exact hb 2 (by omega)
  · exact hb 3 (by omega)
  · exact hb 4 (by omega)
theorem ext {D : Nat → Bool} {n : Nat} (h : ∀ j, j < n → D j = true) (h1 : D n = true) : ∀ j, j < n + 1 → D j = true := by
  intro j hj
  rcases Nat.lt_or_eq_of_le (Nat.le_of_lt_succ hj) with h2 | rfl
  · exact h j h2
  · exact h1
theorem on_lt {o : Oper} {n : Nat} (h : (o.after.all fun e => decide (e.on < n)) = true) : ∀ e ∈ o.after, e.on < n := by
  intro e he
  have := Array.all_eq_true_iff_forall_mem.1 h e he
  simpa using this
set_option maxRecDepth 100000 in
set_option maxHeartbeats 16000000 in
theorem walk (w : World) (hG : Glo w) : Calls Tryd.prog 3 #[] w fun e w' => e = .returned (.bool true) ∧ Below w.heap.size w w' := by
  have HG := Lib.hid hG
  have hK0 := (Kp.nil w).new (PkC awC none 0 0) 27
  clear hG
  go_enter Tryd.func3, Tryd.ntmps3
  go_upto_region 2 with fail
  refine wp_region_inv (by kernel_rfl) (Inv2 w) ?hend (fun D a w' i o hI hDi ho hd => step2 w D a w' i o hI hDi ho hd) ?h0
  case h0 => exact ⟨fun _ => 0, fun _ => undef, rfl, ⟨hK0.drew, fun j _ h => (by cases h), fun i j _ _ _ h => (by cases h), fun j _ h => (by cases h)⟩, ⟨fun j _ h => (by cases h), fun j _ h => (by cases h)⟩⟩
  case hend =>
  clear hK0
  intro D a w2 hI hdone
  obtain ⟨G, X, rfl, hR, hS⟩ := hI
  have hD10 : ∀ j, j < 10 → D j = true := by
    intro j hj
    have : j = 0 ∨ j = 1 ∨ j = 2 ∨ j = 3 ∨ j = 4 ∨ j = 5 ∨ j = 6 ∨ j = 7 ∨ j = 8 ∨ j = 9 := by omega
    rcases this with rfl | rfl | rfl | rfl | rfl | rfl | rfl | rfl | rfl | rfl <;> exact hdone _ _ rfl (fun e he hb => by simp at he; try (subst he; cases hb))
  have hD11 : ∀ j, j < 11 → D j = true := ext hD10 (hdone 10 _ rfl (fun e he _ => hD10 _ (on_lt (n := 10) (by kernel_rfl) e he)))
  have hD12 : ∀ j, j < 12 → D j = true := ext hD11 (hdone 11 _ rfl (fun e he _ => hD11 _ (on_lt (n := 11) (by kernel_rfl) e he)))
  have hD13 : ∀ j, j < 13 → D j = true := ext hD12 (hdone 12 _ rfl (fun e he _ => hD12 _ (on_lt (n := 12) (by kernel_rfl) e he)))
  have hD14 : ∀ j, j < 14 → D j = true := ext hD13 (hdone 13 _ rfl (fun e he _ => hD13 _ (on_lt (n := 13) (by kernel_rfl) e he)))
  have hD15 : ∀ j, j < 15 → D j = true := ext hD14 (hdone 14 _ rfl (fun e he _ => hD14 _ (on_lt (n := 14) (by kernel_rfl) e he)))
  have hD := hD15
  clear hD10 hD11 hD12 hD13 hD14 hD15
  have hK := kp5 hR hD
  have e2 := hS.pt 0 (by omega) (hD _ (by omega))
  have e3 := hS.pt 1 (by omega) (hD _ (by omega))
  have e4 := hS.pt 2 (by omega) (hD _ (by omega))
  have e5 := hS.pt 3 (by omega) (hD _ (by omega))
  have e6 := hS.pt 4 (by omega) (hD _ (by omega))
  have e16 := hS.ld 0 (by omega) (hD _ (by omega))
  have e17 := hS.ld 1 (by omega) (hD _ (by omega))
  have e18 := hS.ld 2 (by omega) (hD _ (by omega))
  have e19 := hS.ld 3 (by omega) (hD _ (by omega))
  have e20 := hS.ld 4 (by omega) (hD _ (by omega))
  simp only [Nat.reduceAdd] at e2 e3 e4 e5 e6 e16 e17 e18 e19 e20
  have n01 : G 0 ≠ G 1 := hR.ne 0 1 (by omega) (by omega) (by omega) (hD _ (by omega)) (hD _ (by omega))
  have n02 : G 0 ≠ G 2 := hR.ne 0 2 (by omega) (by omega) (by omega) (hD _ (by omega)) (hD _ (by omega))
  have n03 : G 0 ≠ G 3 := hR.ne 0 3 (by omega) (by omega) (by omega) (hD _ (by omega)) (hD _ (by omega))
  have n04 : G 0 ≠ G 4 := hR.ne 0 4 (by omega) (by omega) (by omega) (hD _ (by omega)) (hD _ (by omega))
  have n12 : G 1 ≠ G 2 := hR.ne 1 2 (by omega) (by omega) (by omega) (hD _ (by omega)) (hD _ (by omega))
  have n13 : G 1 ≠ G 3 := hR.ne 1 3 (by omega) (by omega) (by omega) (hD _ (by omega)) (hD _ (by omega))
  have n14 : G 1 ≠ G 4 := hR.ne 1 4 (by omega) (by omega) (by omega) (hD _ (by omega)) (hD _ (by omega))
  have n23 : G 2 ≠ G 3 := hR.ne 2 3 (by omega) (by omega) (by omega) (hD _ (by omega)) (hD _ (by omega))
  have n24 : G 2 ≠ G 4 := hR.ne 2 4 (by omega) (by omega) (by omega) (hD _ (by omega)) (hD _ (by omega))
  have n34 : G 3 ≠ G 4 := hR.ne 3 4 (by omega) (by omega) (by omega) (hD _ (by omega)) (hD _ (by omega))
  unfold act2
  rw [e2, e3, e4, e5, e6, e16, e17, e18, e19, e20]
  clear e2 e3 e4 e5 e6 e16 e17 e18 e19 e20 hS hR hD hdone
  generalize G 0 = g0 at *
  generalize G 1 = g1 at *
  generalize G 2 = g2 at *
  generalize G 3 = g3 at *
  generalize G 4 = g4 at *
  have n10 : ¬ g1 = g0 := Ne.symm n01
  have n20 : ¬ g2 = g0 := Ne.symm n02
  have n30 : ¬ g3 = g0 := Ne.symm n03
  have n40 : ¬ g4 = g0 := Ne.symm n04
  have n21 : ¬ g2 = g1 := Ne.symm n12
  have n31 : ¬ g3 = g1 := Ne.symm n13
  have n41 : ¬ g4 = g1 := Ne.symm n14
  have n32 : ¬ g3 = g2 := Ne.symm n23
  have n42 : ¬ g4 = g2 := Ne.symm n24
  have n43 : ¬ g4 = g3 := Ne.symm n34
  have p1r := hK.row; have p1f := hK.free; have p1c := hK.cell; have p1l := hK.lt; have p1z := hK.froz
  have p2r := hK.tail.row; have p2f := hK.tail.free; have p2c := hK.tail.cell; have p2l := hK.tail.lt; have p2z := hK.tail.froz
  have p3r := hK.tail.tail.row; have p3f := hK.tail.tail.free; have p3c := hK.tail.tail.cell; have p3l := hK.tail.tail.lt; have p3z := hK.tail.tail.froz
  have p4r := hK.tail.tail.tail.row; have p4f := hK.tail.tail.tail.free; have p4c := hK.tail.tail.tail.cell; have p4l := hK.tail.tail.tail.lt; have p4z := hK.tail.tail.tail.froz
  have p5r := hK.tail.tail.tail.tail.row; have p5f := hK.tail.tail.tail.tail.free; have p5c := hK.tail.tail.tail.tail.cell; have p5l := hK.tail.tail.tail.tail.lt; have p5z := hK.tail.tail.tail.tail.froz
  go_upto_region 4 with fail
  have hK := Kp.re (L' := [(g0, PkC awC none 0 0, 27), (g1, PkC awC none 0 0, 27), (g2, PkC awC none 0 0, 27), (g3, PkC awC none 0 0, 27), (g4, PkC awC none 0 0, 27)]) hK (by intro x hx; simp only [List.mem_cons, List.not_mem_nil, or_false] at hx ⊢; rcases hx with rfl | rfl | rfl | rfl | rfl <;> simp)
  have hK := hK.set (by intro x hx; simp only [List.mem_cons, List.not_mem_nil, or_false] at hx; rcases hx with rfl | rfl | rfl | rfl <;> assumption) (PkC (awC.s_level 3) none 0 0)
  have hK := Kp.re (L' := [(g0, PkC (awC.s_level 3) none 0 0, 27), (g1, PkC awC none 0 0, 27), (g2, PkC awC none 0 0, 27), (g3, PkC awC none 0 0, 27), (g4, PkC awC none 0 0, 27)]) hK (by intro x hx; simp only [List.mem_cons, List.not_mem_nil, or_false] at hx ⊢; rcases hx with rfl | rfl | rfl | rfl | rfl <;> simp)
  generalize hww : World.setRow _ _ _ = ws1 at hK ⊢
  clear hww p1r p1f p1c p1l p1z p2r p2f p2c p2l p2z p3r p3f p3c p3l p3z p4r p4f p4c p4l p4z p5r p5f p5c p5l p5z
  have p1r := hK.row; have p1f := hK.free; have p1c := hK.cell; have p1l := hK.lt; have p1z := hK.froz
  have p2r := hK.tail.row; have p2f := hK.tail.free; have p2c := hK.tail.cell; have p2l := hK.tail.lt; have p2z := hK.tail.froz
  have p3r := hK.tail.tail.row; have p3f := hK.tail.tail.free; have p3c := hK.tail.tail.cell; have p3l := hK.tail.tail.lt; have p3z := hK.tail.tail.froz
  have p4r := hK.tail.tail.tail.row; have p4f := hK.tail.tail.tail.free; have p4c := hK.tail.tail.tail.cell; have p4l := hK.tail.tail.tail.lt; have p4z := hK.tail.tail.tail.froz
  have p5r := hK.tail.tail.tail.tail.row; have p5f := hK.tail.tail.tail.tail.free; have p5c := hK.tail.tail.tail.tail.cell; have p5l := hK.tail.tail.tail.tail.lt; have p5z := hK.tail.tail.tail.tail.froz
  go_upto_region 5 with fail
  have hK := Kp.re (L' := [(g1, PkC awC none 0 0, 27), (g0, PkC (awC.s_level 3) none 0 0, 27), (g2, PkC awC none 0 0, 27), (g3, PkC awC none 0 0, 27), (g4, PkC awC none 0 0, 27)]) hK (by intro x hx; simp only [List.mem_cons, List.not_mem_nil, or_false] at hx ⊢; rcases hx with rfl | rfl | rfl | rfl | rfl <;> simp)
  have hK := hK.set (by intro x hx; simp only [List.mem_cons, List.not_mem_nil, or_false] at hx; rcases hx with rfl | rfl | rfl | rfl <;> assumption) (PkC (awC.s_pass [120]) none 0 0)
  have hK := Kp.re (L' := [(g0, PkC (awC.s_level 3) none 0 0, 27), (g1, PkC (awC.s_pass [120]) none 0 0, 27), (g2, PkC awC none 0 0, 27), (g3, PkC awC none 0 0, 27), (g4, PkC awC none 0 0, 27)]) hK (by intro x hx; simp only [List.mem_cons, List.not_mem_nil, or_false] at hx ⊢; rcases hx with rfl | rfl | rfl | rfl | rfl <;> simp)
  generalize hww : World.setRow _ _ _ = ws2 at hK ⊢
  clear hww p1r p1f p1c p1l p1z p2r p2f p2c p2l p2z p3r p3f p3c p3l p3z p4r p4f p4c p4l p4z p5r p5f p5c p5l p5z
  have p1r := hK.row; have p1f := hK.free; have p1c := hK.cell; have p1l := hK.lt; have p1z := hK.froz
  have p2r := hK.tail.row; have p2f := hK.tail.free; have p2c := hK.tail.cell; have p2l := hK.tail.lt; have p2z := hK.tail.froz
  have p3r := hK.tail.tail.row; have p3f := hK.tail.tail.free; have p3c := hK.tail.tail.cell; have p3l := hK.tail.tail.lt; have p3z := hK.tail.tail.froz
  have p4r := hK.tail.tail.tail.row; have p4f := hK.tail.tail.tail.free; have p4c := hK.tail.tail.tail.cell; have p4l := hK.tail.tail.tail.lt; have p4z := hK.tail.tail.tail.froz
  have p5r := hK.tail.tail.tail.tail.row; have p5f := hK.tail.tail.tail.tail.free; have p5c := hK.tail.tail.tail.tail.cell; have p5l := hK.tail.tail.tail.tail.lt; have p5z := hK.tail.tail.tail.tail.froz
  go_upto_region 6 with fail
  have hK := Kp.re (L' := [(g2, PkC awC none 0 0, 27), (g0, PkC (awC.s_level 3) none 0 0, 27), (g1, PkC (awC.s_pass [120]) none 0 0, 27), (g3, PkC awC none 0 0, 27), (g4, PkC awC none 0 0, 27)]) hK (by intro x hx; simp only [List.mem_cons, List.not_mem_nil, or_false] at hx ⊢; rcases hx with rfl | rfl | rfl | rfl | rfl <;> simp)
  have hK := hK.set (by intro x hx; simp only [List.mem_cons, List.not_mem_nil, or_false] at hx; rcases hx with rfl | rfl | rfl | rfl <;> assumption) (PkC (awC.s_hasPass true) none 0 0)
  have hK := Kp.re (L' := [(g0, PkC (awC.s_level 3) none 0 0, 27), (g1, PkC (awC.s_pass [120]) none 0 0, 27), (g2, PkC (awC.s_hasPass true) none 0 0, 27), (g3, PkC awC none 0 0, 27), (g4, PkC awC none 0 0, 27)]) hK (by intro x hx; simp only [List.mem_cons, List.not_mem_nil, or_false] at hx ⊢; rcases hx with rfl | rfl | rfl | rfl | rfl <;> simp)
  generalize hww : World.setRow _ _ _ = ws3 at hK ⊢
  clear hww p1r p1f p1c p1l p1z p2r p2f p2c p2l p2z p3r p3f p3c p3l p3z p4r p4f p4c p4l p4z p5r p5f p5c p5l p5z
  have p1r := hK.row; have p1f := hK.free; have p1c := hK.cell; have p1l := hK.lt; have p1z := hK.froz
  have p2r := hK.tail.row; have p2f := hK.tail.free; have p2c := hK.tail.cell; have p2l := hK.tail.lt; have p2z := hK.tail.froz
  have p3r := hK.tail.tail.row; have p3f := hK.tail.tail.free; have p3c := hK.tail.tail.cell; have p3l := hK.tail.tail.lt; have p3z := hK.tail.tail.froz
  have p4r := hK.tail.tail.tail.row; have p4f := hK.tail.tail.tail.free; have p4c := hK.tail.tail.tail.cell; have p4l := hK.tail.tail.tail.lt; have p4z := hK.tail.tail.tail.froz
  have p5r := hK.tail.tail.tail.tail.row; have p5f := hK.tail.tail.tail.tail.free; have p5c := hK.tail.tail.tail.tail.cell; have p5l := hK.tail.tail.tail.tail.lt; have p5z := hK.tail.tail.tail.tail.froz
  go_upto_region 7 with fail
  have hK := Kp.re (L' := [(g2, PkC (awC.s_hasPass true) none 0 0, 27), (g0, PkC (awC.s_level 3) none 0 0, 27), (g1, PkC (awC.s_pass [120]) none 0 0, 27), (g3, PkC awC none 0 0, 27), (g4, PkC awC none 0 0, 27)]) hK (by intro x hx; simp only [List.mem_cons, List.not_mem_nil, or_false] at hx ⊢; rcases hx with rfl | rfl | rfl | rfl | rfl <;> simp)
  have hK := hK.set (by intro x hx; simp only [List.mem_cons, List.not_mem_nil, or_false] at hx; rcases hx with rfl | rfl | rfl | rfl <;> assumption) (PkC ((awC.s_hasPass true).s_pass [120]) none 0 0)
  have hK := Kp.re (L' := [(g0, PkC (awC.s_level 3) none 0 0, 27), (g1, PkC (awC.s_pass [120]) none 0 0, 27), (g2, PkC ((awC.s_hasPass true).s_pass [120]) none 0 0, 27), (g3, PkC awC none 0 0, 27), (g4, PkC awC none 0 0, 27)]) hK (by intro x hx; simp only [List.mem_cons, List.not_mem_nil, or_false] at hx ⊢; rcases hx with rfl | rfl | rfl | rfl | rfl <;> simp)
  generalize hww : World.setRow _ _ _ = ws4 at hK ⊢
  clear hww p1r p1f p1c p1l p1z p2r p2f p2c p2l p2z p3r p3f p3c p3l p3z p4r p4f p4c p4l p4z p5r p5f p5c p5l p5z
  have p1r := hK.row; have p1f := hK.free; have p1c := hK.cell; have p1l := hK.lt; have p1z := hK.froz
  have p2r := hK.tail.row; have p2f := hK.tail.free; have p2c := hK.tail.cell; have p2l := hK.tail.lt; have p2z := hK.tail.froz
  have p3r := hK.tail.tail.row; have p3f := hK.tail.tail.free; have p3c := hK.tail.tail.cell; have p3l := hK.tail.tail.lt; have p3z := hK.tail.tail.froz
  have p4r := hK.tail.tail.tail.row; have p4f := hK.tail.tail.tail.free; have p4c := hK.tail.tail.tail.cell; have p4l := hK.tail.tail.tail.lt; have p4z := hK.tail.tail.tail.froz
  have p5r := hK.tail.tail.tail.tail.row; have p5f := hK.tail.tail.tail.tail.free; have p5c := hK.tail.tail.tail.tail.cell; have p5l := hK.tail.tail.tail.tail.lt; have p5z := hK.tail.tail.tail.tail.froz
  go_upto_region 8 with fail
  have hK := Kp.re (L' := [(g3, PkC awC none 0 0, 27), (g0, PkC (awC.s_level 3) none 0 0, 27), (g1, PkC (awC.s_pass [120]) none 0 0, 27), (g2, PkC ((awC.s_hasPass true).s_pass [120]) none 0 0, 27), (g4, PkC awC none 0 0, 27)]) hK (by intro x hx; simp only [List.mem_cons, List.not_mem_nil, or_false] at hx ⊢; rcases hx with rfl | rfl | rfl | rfl | rfl <;> simp)
  have hK := hK.set (by intro x hx; simp only [List.mem_cons, List.not_mem_nil, or_false] at hx; rcases hx with rfl | rfl | rfl | rfl <;> assumption) (PkC (awC.s_hasUser true) none 0 0)
  have hK := Kp.re (L' := [(g0, PkC (awC.s_level 3) none 0 0, 27), (g1, PkC (awC.s_pass [120]) none 0 0, 27), (g2, PkC ((awC.s_hasPass true).s_pass [120]) none 0 0, 27), (g3, PkC (awC.s_hasUser true) none 0 0, 27), (g4, PkC awC none 0 0, 27)]) hK (by intro x hx; simp only [List.mem_cons, List.not_mem_nil, or_false] at hx ⊢; rcases hx with rfl | rfl | rfl | rfl | rfl <;> simp)
  generalize hww : World.setRow _ _ _ = ws5 at hK ⊢
  clear hww p1r p1f p1c p1l p1z p2r p2f p2c p2l p2z p3r p3f p3c p3l p3z p4r p4f p4c p4l p4z p5r p5f p5c p5l p5z
  have p1r := hK.row; have p1f := hK.free; have p1c := hK.cell; have p1l := hK.lt; have p1z := hK.froz
  have p2r := hK.tail.row; have p2f := hK.tail.free; have p2c := hK.tail.cell; have p2l := hK.tail.lt; have p2z := hK.tail.froz
  have p3r := hK.tail.tail.row; have p3f := hK.tail.tail.free; have p3c := hK.tail.tail.cell; have p3l := hK.tail.tail.lt; have p3z := hK.tail.tail.froz
  have p4r := hK.tail.tail.tail.row; have p4f := hK.tail.tail.tail.free; have p4c := hK.tail.tail.tail.cell; have p4l := hK.tail.tail.tail.lt; have p4z := hK.tail.tail.tail.froz
  have p5r := hK.tail.tail.tail.tail.row; have p5f := hK.tail.tail.tail.tail.free; have p5c := hK.tail.tail.tail.tail.cell; have p5l := hK.tail.tail.tail.tail.lt; have p5z := hK.tail.tail.tail.tail.froz
  go_upto_region 9 with fail
  have hK := Kp.re (L' := [(g3, PkC (awC.s_hasUser true) none 0 0, 27), (g0, PkC (awC.s_level 3) none 0 0, 27), (g1, PkC (awC.s_pass [120]) none 0 0, 27), (g2, PkC ((awC.s_hasPass true).s_pass [120]) none 0 0, 27), (g4, PkC awC none 0 0, 27)]) hK (by intro x hx; simp only [List.mem_cons, List.not_mem_nil, or_false] at hx ⊢; rcases hx with rfl | rfl | rfl | rfl | rfl <;> simp)
  have hK := hK.set (by intro x hx; simp only [List.mem_cons, List.not_mem_nil, or_false] at hx; rcases hx with rfl | rfl | rfl | rfl <;> assumption) (PkC ((awC.s_hasUser true).s_hasPass true) none 0 0)
  have hK := Kp.re (L' := [(g0, PkC (awC.s_level 3) none 0 0, 27), (g1, PkC (awC.s_pass [120]) none 0 0, 27), (g2, PkC ((awC.s_hasPass true).s_pass [120]) none 0 0, 27), (g3, PkC ((awC.s_hasUser true).s_hasPass true) none 0 0, 27), (g4, PkC awC none 0 0, 27)]) hK (by intro x hx; simp only [List.mem_cons, List.not_mem_nil, or_false] at hx ⊢; rcases hx with rfl | rfl | rfl | rfl | rfl <;> simp)
  generalize hww : World.setRow _ _ _ = ws6 at hK ⊢
  clear hww p1r p1f p1c p1l p1z p2r p2f p2c p2l p2z p3r p3f p3c p3l p3z p4r p4f p4c p4l p4z p5r p5f p5c p5l p5z
  have p1r := hK.row; have p1f := hK.free; have p1c := hK.cell; have p1l := hK.lt; have p1z := hK.froz
  have p2r := hK.tail.row; have p2f := hK.tail.free; have p2c := hK.tail.cell; have p2l := hK.tail.lt; have p2z := hK.tail.froz
  have p3r := hK.tail.tail.row; have p3f := hK.tail.tail.free; have p3c := hK.tail.tail.cell; have p3l := hK.tail.tail.lt; have p3z := hK.tail.tail.froz
  have p4r := hK.tail.tail.tail.row; have p4f := hK.tail.tail.tail.free; have p4c := hK.tail.tail.tail.cell; have p4l := hK.tail.tail.tail.lt; have p4z := hK.tail.tail.tail.froz
  have p5r := hK.tail.tail.tail.tail.row; have p5f := hK.tail.tail.tail.tail.free; have p5c := hK.tail.tail.tail.tail.cell; have p5l := hK.tail.tail.tail.tail.lt; have p5z := hK.tail.tail.tail.tail.froz
  go_upto_region 10 with fail
  have hK := Kp.re (L' := [(g4, PkC awC none 0 0, 27), (g0, PkC (awC.s_level 3) none 0 0, 27), (g1, PkC (awC.s_pass [120]) none 0 0, 27), (g2, PkC ((awC.s_hasPass true).s_pass [120]) none 0 0, 27), (g3, PkC ((awC.s_hasUser true).s_hasPass true) none 0 0, 27)]) hK (by intro x hx; simp only [List.mem_cons, List.not_mem_nil, or_false] at hx ⊢; rcases hx with rfl | rfl | rfl | rfl | rfl <;> simp)
  have hK := hK.set (by intro x hx; simp only [List.mem_cons, List.not_mem_nil, or_false] at hx; rcases hx with rfl | rfl | rfl | rfl <;> assumption) (PkC (awC.s_hasWill true) none 0 0)
  have hK := Kp.re (L' := [(g0, PkC (awC.s_level 3) none 0 0, 27), (g1, PkC (awC.s_pass [120]) none 0 0, 27), (g2, PkC ((awC.s_hasPass true).s_pass [120]) none 0 0, 27), (g3, PkC ((awC.s_hasUser true).s_hasPass true) none 0 0, 27), (g4, PkC (awC.s_hasWill true) none 0 0, 27)]) hK (by intro x hx; simp only [List.mem_cons, List.not_mem_nil, or_false] at hx ⊢; rcases hx with rfl | rfl | rfl | rfl | rfl <;> simp)
  generalize hww : World.setRow _ _ _ = ws7 at hK ⊢
  clear hww p1r p1f p1c p1l p1z p2r p2f p2c p2l p2z p3r p3f p3c p3l p3z p4r p4f p4c p4l p4z p5r p5f p5c p5l p5z
  have p1r := hK.row; have p1f := hK.free; have p1c := hK.cell; have p1l := hK.lt; have p1z := hK.froz
  have p2r := hK.tail.row; have p2f := hK.tail.free; have p2c := hK.tail.cell; have p2l := hK.tail.lt; have p2z := hK.tail.froz
  have p3r := hK.tail.tail.row; have p3f := hK.tail.tail.free; have p3c := hK.tail.tail.cell; have p3l := hK.tail.tail.lt; have p3z := hK.tail.tail.froz
  have p4r := hK.tail.tail.tail.row; have p4f := hK.tail.tail.tail.free; have p4c := hK.tail.tail.tail.cell; have p4l := hK.tail.tail.tail.lt; have p4z := hK.tail.tail.tail.froz
  have p5r := hK.tail.tail.tail.tail.row; have p5f := hK.tail.tail.tail.tail.free; have p5c := hK.tail.tail.tail.tail.cell; have p5l := hK.tail.tail.tail.tail.lt; have p5z := hK.tail.tail.tail.tail.froz
  go_upto_region 11 with fail
  have hK := Kp.re (L' := [(g4, PkC (awC.s_hasWill true) none 0 0, 27), (g0, PkC (awC.s_level 3) none 0 0, 27), (g1, PkC (awC.s_pass [120]) none 0 0, 27), (g2, PkC ((awC.s_hasPass true).s_pass [120]) none 0 0, 27), (g3, PkC ((awC.s_hasUser true).s_hasPass true) none 0 0, 27)]) hK (by intro x hx; simp only [List.mem_cons, List.not_mem_nil, or_false] at hx ⊢; rcases hx with rfl | rfl | rfl | rfl | rfl <;> simp)
  have hK := hK.set (by intro x hx; simp only [List.mem_cons, List.not_mem_nil, or_false] at hx; rcases hx with rfl | rfl | rfl | rfl <;> assumption) (PkC ((awC.s_hasWill true).s_will [119] [112, 112] 2 true) none 0 0)
  have hK := Kp.re (L' := [(g0, PkC (awC.s_level 3) none 0 0, 27), (g1, PkC (awC.s_pass [120]) none 0 0, 27), (g2, PkC ((awC.s_hasPass true).s_pass [120]) none 0 0, 27), (g3, PkC ((awC.s_hasUser true).s_hasPass true) none 0 0, 27), (g4, PkC ((awC.s_hasWill true).s_will [119] [112, 112] 2 true) none 0 0, 27)]) hK (by intro x hx; simp only [List.mem_cons, List.not_mem_nil, or_false] at hx ⊢; rcases hx with rfl | rfl | rfl | rfl | rfl <;> simp)
  generalize hww : World.setRow _ _ _ = ws8 at hK ⊢
  clear hww p1r p1f p1c p1l p1z p2r p2f p2c p2l p2z p3r p3f p3c p3l p3z p4r p4f p4c p4l p4z p5r p5f p5c p5l p5z
  have hK : Kp w [(g0, PkC kD none 0 0, 27), (g1, PkC kE none 0 0, 27), (g2, PkC kF none 0 0, 27), (g3, PkC kG none 0 0, 27), (g4, PkC kH none 0 0, 27)] ws8 := hK
  have p1r := hK.row; have p1f := hK.free; have p1c := hK.cell; have p1l := hK.lt; have p1z := hK.froz
  have p2r := hK.tail.row; have p2f := hK.tail.free; have p2c := hK.tail.cell; have p2l := hK.tail.lt; have p2z := hK.tail.froz
  have p3r := hK.tail.tail.row; have p3f := hK.tail.tail.free; have p3c := hK.tail.tail.cell; have p3l := hK.tail.tail.lt; have p3z := hK.tail.tail.froz
  have p4r := hK.tail.tail.tail.row; have p4f := hK.tail.tail.tail.free; have p4c := hK.tail.tail.tail.cell; have p4l := hK.tail.tail.tail.lt; have p4z := hK.tail.tail.tail.froz
  have p5r := hK.tail.tail.tail.tail.row; have p5f := hK.tail.tail.tail.tail.free; have p5c := hK.tail.tail.tail.tail.cell; have p5l := hK.tail.tail.tail.tail.lt; have p5z := hK.tail.tail.tail.tail.froz
  go_wp2_with fail
  refine (law_ok kD (-1) kD_ok none _ (HG.out.below hK.below)).mono ?_
  rintro e wc9 ⟨rfl, hb6⟩
  have hK := hK.more hb6
  clear hb6 p1r p1f p1c p1l p1z p2r p2f p2c p2l p2z p3r p3f p3c p3l p3z p4r p4f p4c p4l p4z p5r p5f p5c p5l p5z
  have p1r := hK.row; have p1f := hK.free; have p1c := hK.cell; have p1l := hK.lt; have p1z := hK.froz
  have p2r := hK.tail.row; have p2f := hK.tail.free; have p2c := hK.tail.cell; have p2l := hK.tail.lt; have p2z := hK.tail.froz
  have p3r := hK.tail.tail.row; have p3f := hK.tail.tail.free; have p3c := hK.tail.tail.cell; have p3l := hK.tail.tail.lt; have p3z := hK.tail.tail.froz
  have p4r := hK.tail.tail.tail.row; have p4f := hK.tail.tail.tail.free; have p4c := hK.tail.tail.tail.cell; have p4l := hK.tail.tail.tail.lt; have p4z := hK.tail.tail.tail.froz
  have p5r := hK.tail.tail.tail.tail.row; have p5f := hK.tail.tail.tail.tail.free; have p5c := hK.tail.tail.tail.tail.cell; have p5l := hK.tail.tail.tail.tail.lt; have p5z := hK.tail.tail.tail.tail.froz
  go_wp2_with fail
  refine (law_ok kE (-1) kE_ok none _ (HG.out.below hK.below)).mono ?_
  rintro e wc10 ⟨rfl, hb6⟩
  have hK := hK.more hb6
  clear hb6 p1r p1f p1c p1l p1z p2r p2f p2c p2l p2z p3r p3f p3c p3l p3z p4r p4f p4c p4l p4z p5r p5f p5c p5l p5z
  have p1r := hK.row; have p1f := hK.free; have p1c := hK.cell; have p1l := hK.lt; have p1z := hK.froz
  have p2r := hK.tail.row; have p2f := hK.tail.free; have p2c := hK.tail.cell; have p2l := hK.tail.lt; have p2z := hK.tail.froz
  have p3r := hK.tail.tail.row; have p3f := hK.tail.tail.free; have p3c := hK.tail.tail.cell; have p3l := hK.tail.tail.lt; have p3z := hK.tail.tail.froz
  have p4r := hK.tail.tail.tail.row; have p4f := hK.tail.tail.tail.free; have p4c := hK.tail.tail.tail.cell; have p4l := hK.tail.tail.tail.lt; have p4z := hK.tail.tail.tail.froz
  have p5r := hK.tail.tail.tail.tail.row; have p5f := hK.tail.tail.tail.tail.free; have p5c := hK.tail.tail.tail.tail.cell; have p5l := hK.tail.tail.tail.tail.lt; have p5z := hK.tail.tail.tail.tail.froz
  go_wp2_with fail
  refine (law_ok kF (-1) kF_ok none _ (HG.out.below hK.below)).mono ?_
  rintro e wc11 ⟨rfl, hb6⟩
  have hK := hK.more hb6
  clear hb6 p1r p1f p1c p1l p1z p2r p2f p2c p2l p2z p3r p3f p3c p3l p3z p4r p4f p4c p4l p4z p5r p5f p5c p5l p5z
  have p1r := hK.row; have p1f := hK.free; have p1c := hK.cell; have p1l := hK.lt; have p1z := hK.froz
  have p2r := hK.tail.row; have p2f := hK.tail.free; have p2c := hK.tail.cell; have p2l := hK.tail.lt; have p2z := hK.tail.froz
  have p3r := hK.tail.tail.row; have p3f := hK.tail.tail.free; have p3c := hK.tail.tail.cell; have p3l := hK.tail.tail.lt; have p3z := hK.tail.tail.froz
  have p4r := hK.tail.tail.tail.row; have p4f := hK.tail.tail.tail.free; have p4c := hK.tail.tail.tail.cell; have p4l := hK.tail.tail.tail.lt; have p4z := hK.tail.tail.tail.froz
  have p5r := hK.tail.tail.tail.tail.row; have p5f := hK.tail.tail.tail.tail.free; have p5c := hK.tail.tail.tail.tail.cell; have p5l := hK.tail.tail.tail.tail.lt; have p5z := hK.tail.tail.tail.tail.froz
  go_wp2_with fail
  refine (law_ok kG (17) kG_ok none _ (HG.out.below hK.below)).mono ?_
  rintro e wc12 ⟨rfl, hb6⟩
  have hK := hK.more hb6
  clear hb6 p1r p1f p1c p1l p1z p2r p2f p2c p2l p2z p3r p3f p3c p3l p3z p4r p4f p4c p4l p4z p5r p5f p5c p5l p5z
  have p1r := hK.row; have p1f := hK.free; have p1c := hK.cell; have p1l := hK.lt; have p1z := hK.froz
  have p2r := hK.tail.row; have p2f := hK.tail.free; have p2c := hK.tail.cell; have p2l := hK.tail.lt; have p2z := hK.tail.froz
  have p3r := hK.tail.tail.row; have p3f := hK.tail.tail.free; have p3c := hK.tail.tail.cell; have p3l := hK.tail.tail.lt; have p3z := hK.tail.tail.froz
  have p4r := hK.tail.tail.tail.row; have p4f := hK.tail.tail.tail.free; have p4c := hK.tail.tail.tail.cell; have p4l := hK.tail.tail.tail.lt; have p4z := hK.tail.tail.tail.froz
  have p5r := hK.tail.tail.tail.tail.row; have p5f := hK.tail.tail.tail.tail.free; have p5c := hK.tail.tail.tail.tail.cell; have p5l := hK.tail.tail.tail.tail.lt; have p5z := hK.tail.tail.tail.tail.froz
  go_wp2_with fail
  refine (law_ok kH (20) kH_ok none _ (HG.out.below hK.below)).mono ?_
  rintro e wc13 ⟨rfl, hb6⟩
  have hK := hK.more hb6
  clear hb6 p1r p1f p1c p1l p1z p2r p2f p2c p2l p2z p3r p3f p3c p3l p3z p4r p4f p4c p4l p4z p5r p5f p5c p5l p5z
  have p1r := hK.row; have p1f := hK.free; have p1c := hK.cell; have p1l := hK.lt; have p1z := hK.froz
  have p2r := hK.tail.row; have p2f := hK.tail.free; have p2c := hK.tail.cell; have p2l := hK.tail.lt; have p2z := hK.tail.froz
  have p3r := hK.tail.tail.row; have p3f := hK.tail.tail.free; have p3c := hK.tail.tail.cell; have p3l := hK.tail.tail.lt; have p3z := hK.tail.tail.froz
  have p4r := hK.tail.tail.tail.row; have p4f := hK.tail.tail.tail.free; have p4c := hK.tail.tail.tail.cell; have p4l := hK.tail.tail.tail.lt; have p4z := hK.tail.tail.tail.froz
  have p5r := hK.tail.tail.tail.tail.row; have p5f := hK.tail.tail.tail.tail.free; have p5c := hK.tail.tail.tail.tail.cell; have p5l := hK.tail.tail.tail.tail.lt; have p5z := hK.tail.tail.tail.tail.froz
  clear p1r p1f p1c p1l p1z p2r p2f p2c p2l p2z p3r p3f p3c p3l p3z p4r p4f p4c p4l p4z p5r p5f p5c p5l p5z
  have p1r := hK.row; have p1f := hK.free; have p1c := hK.cell; have p1l := hK.lt; have p1z := hK.froz
  have p2r := hK.tail.row; have p2f := hK.tail.free; have p2c := hK.tail.cell; have p2l := hK.tail.lt; have p2z := hK.tail.froz
  have p3r := hK.tail.tail.row; have p3f := hK.tail.tail.free; have p3c := hK.tail.tail.cell; have p3l := hK.tail.tail.lt; have p3z := hK.tail.tail.froz
  have p4r := hK.tail.tail.tail.row; have p4f := hK.tail.tail.tail.free; have p4c := hK.tail.tail.tail.cell; have p4l := hK.tail.tail.tail.lt; have p4z := hK.tail.tail.tail.froz
  have p5r := hK.tail.tail.tail.tail.row; have p5f := hK.tail.tail.tail.tail.free; have p5c := hK.tail.tail.tail.tail.cell; have p5l := hK.tail.tail.tail.tail.lt; have p5z := hK.tail.tail.tail.tail.froz
  go_upto_region 14 with fail
  have hK := Kp.re (L' := [(g4, PkC kH none 0 0, 27), (g0, PkC kD none 0 0, 27), (g1, PkC kE none 0 0, 27), (g2, PkC kF none 0 0, 27), (g3, PkC kG none 0 0, 27)]) hK (by intro x hx; simp only [List.mem_cons, List.not_mem_nil, or_false] at hx ⊢; rcases hx with rfl | rfl | rfl | rfl | rfl <;> simp)
  have hK := hK.set (by intro x hx; simp only [List.mem_cons, List.not_mem_nil, or_false] at hx; rcases hx with rfl | rfl | rfl | rfl <;> assumption) (PkC (kH.s_hasWill false) none 0 0)
  have hK := Kp.re (L' := [(g0, PkC kD none 0 0, 27), (g1, PkC kE none 0 0, 27), (g2, PkC kF none 0 0, 27), (g3, PkC kG none 0 0, 27), (g4, PkC (kH.s_hasWill false) none 0 0, 27)]) hK (by intro x hx; simp only [List.mem_cons, List.not_mem_nil, or_false] at hx ⊢; rcases hx with rfl | rfl | rfl | rfl | rfl <;> simp)
  generalize hww : World.setRow _ _ _ = ws14 at hK ⊢
  clear hww p1r p1f p1c p1l p1z p2r p2f p2c p2l p2z p3r p3f p3c p3l p3z p4r p4f p4c p4l p4z p5r p5f p5c p5l p5z
  have p1r := hK.row; have p1f := hK.free; have p1c := hK.cell; have p1l := hK.lt; have p1z := hK.froz
  have p2r := hK.tail.row; have p2f := hK.tail.free; have p2c := hK.tail.cell; have p2l := hK.tail.lt; have p2z := hK.tail.froz
  have p3r := hK.tail.tail.row; have p3f := hK.tail.tail.free; have p3c := hK.tail.tail.cell; have p3l := hK.tail.tail.lt; have p3z := hK.tail.tail.froz
  have p4r := hK.tail.tail.tail.row; have p4f := hK.tail.tail.tail.free; have p4c := hK.tail.tail.tail.cell; have p4l := hK.tail.tail.tail.lt; have p4z := hK.tail.tail.tail.froz
  have p5r := hK.tail.tail.tail.tail.row; have p5f := hK.tail.tail.tail.tail.free; have p5c := hK.tail.tail.tail.tail.cell; have p5l := hK.tail.tail.tail.tail.lt; have p5z := hK.tail.tail.tail.tail.froz
  go_upto_region 15 with fail
  have hK := Kp.re (L' := [(g3, PkC kG none 0 0, 27), (g0, PkC kD none 0 0, 27), (g1, PkC kE none 0 0, 27), (g2, PkC kF none 0 0, 27), (g4, PkC (kH.s_hasWill false) none 0 0, 27)]) hK (by intro x hx; simp only [List.mem_cons, List.not_mem_nil, or_false] at hx ⊢; rcases hx with rfl | rfl | rfl | rfl | rfl <;> simp)
  have hK := hK.set (by intro x hx; simp only [List.mem_cons, List.not_mem_nil, or_false] at hx; rcases hx with rfl | rfl | rfl | rfl <;> assumption) (PkC (kG.s_wr true) none 0 0)
  have hK := Kp.re (L' := [(g0, PkC kD none 0 0, 27), (g1, PkC kE none 0 0, 27), (g2, PkC kF none 0 0, 27), (g3, PkC (kG.s_wr true) none 0 0, 27), (g4, PkC (kH.s_hasWill false) none 0 0, 27)]) hK (by intro x hx; simp only [List.mem_cons, List.not_mem_nil, or_false] at hx ⊢; rcases hx with rfl | rfl | rfl | rfl | rfl <;> simp)
  generalize hww : World.setRow _ _ _ = ws15 at hK ⊢
  clear hww p1r p1f p1c p1l p1z p2r p2f p2c p2l p2z p3r p3f p3c p3l p3z p4r p4f p4c p4l p4z p5r p5f p5c p5l p5z
  have hK : Kp w [(g0, PkC kD none 0 0, 27), (g1, PkC kE none 0 0, 27), (g2, PkC kF none 0 0, 27), (g3, PkC kG2 none 0 0, 27), (g4, PkC kH2 none 0 0, 27)] ws15 := hK
  have p1r := hK.row; have p1f := hK.free; have p1c := hK.cell; have p1l := hK.lt; have p1z := hK.froz
  have p2r := hK.tail.row; have p2f := hK.tail.free; have p2c := hK.tail.cell; have p2l := hK.tail.lt; have p2z := hK.tail.froz
  have p3r := hK.tail.tail.row; have p3f := hK.tail.tail.free; have p3c := hK.tail.tail.cell; have p3l := hK.tail.tail.lt; have p3z := hK.tail.tail.froz
  have p4r := hK.tail.tail.tail.row; have p4f := hK.tail.tail.tail.free; have p4c := hK.tail.tail.tail.cell; have p4l := hK.tail.tail.tail.lt; have p4z := hK.tail.tail.tail.froz
  have p5r := hK.tail.tail.tail.tail.row; have p5f := hK.tail.tail.tail.tail.free; have p5c := hK.tail.tail.tail.tail.cell; have p5l := hK.tail.tail.tail.tail.lt; have p5z := hK.tail.tail.tail.tail.froz
  go_wp2_with fail
  refine (law_ok kH2 (-1) kH2_ok none _ (HG.out.below hK.below)).mono ?_
  rintro e wc16 ⟨rfl, hb6⟩
  have hK := hK.more hb6
  clear hb6 p1r p1f p1c p1l p1z p2r p2f p2c p2l p2z p3r p3f p3c p3l p3z p4r p4f p4c p4l p4z p5r p5f p5c p5l p5z
  have p1r := hK.row; have p1f := hK.free; have p1c := hK.cell; have p1l := hK.lt; have p1z := hK.froz
  have p2r := hK.tail.row; have p2f := hK.tail.free; have p2c := hK.tail.cell; have p2l := hK.tail.lt; have p2z := hK.tail.froz
  have p3r := hK.tail.tail.row; have p3f := hK.tail.tail.free; have p3c := hK.tail.tail.cell; have p3l := hK.tail.tail.lt; have p3z := hK.tail.tail.froz
  have p4r := hK.tail.tail.tail.row; have p4f := hK.tail.tail.tail.free; have p4c := hK.tail.tail.tail.cell; have p4l := hK.tail.tail.tail.lt; have p4z := hK.tail.tail.tail.froz
  have p5r := hK.tail.tail.tail.tail.row; have p5f := hK.tail.tail.tail.tail.free; have p5c := hK.tail.tail.tail.tail.cell; have p5l := hK.tail.tail.tail.tail.lt; have p5z := hK.tail.tail.tail.tail.froz
  go_wp2_with fail
  refine (law_ok kG2 (-1) kG2_ok none _ (HG.out.below hK.below)).mono ?_
  rintro e wc17 ⟨rfl, hb6⟩
  have hK := hK.more hb6
  clear hb6 p1r p1f p1c p1l p1z p2r p2f p2c p2l p2z p3r p3f p3c p3l p3z p4r p4f p4c p4l p4z p5r p5f p5c p5l p5z
  have p1r := hK.row; have p1f := hK.free; have p1c := hK.cell; have p1l := hK.lt; have p1z := hK.froz
  have p2r := hK.tail.row; have p2f := hK.tail.free; have p2c := hK.tail.cell; have p2l := hK.tail.lt; have p2z := hK.tail.froz
  have p3r := hK.tail.tail.row; have p3f := hK.tail.tail.free; have p3c := hK.tail.tail.cell; have p3l := hK.tail.tail.lt; have p3z := hK.tail.tail.froz
  have p4r := hK.tail.tail.tail.row; have p4f := hK.tail.tail.tail.free; have p4c := hK.tail.tail.tail.cell; have p4l := hK.tail.tail.tail.lt; have p4z := hK.tail.tail.tail.froz
  have p5r := hK.tail.tail.tail.tail.row; have p5f := hK.tail.tail.tail.tail.free; have p5c := hK.tail.tail.tail.tail.cell; have p5l := hK.tail.tail.tail.tail.lt; have p5z := hK.tail.tail.tail.tail.froz
  go_wp2_with fail
  refine (law_ok kI (-1) kI_ok none _ (HG.out.below hK.below)).mono ?_
  rintro e wc18 ⟨rfl, hb6⟩
  have hK := hK.more hb6
  clear hb6 p1r p1f p1c p1l p1z p2r p2f p2c p2l p2z p3r p3f p3c p3l p3z p4r p4f p4c p4l p4z p5r p5f p5c p5l p5z
  have p1r := hK.row; have p1f := hK.free; have p1c := hK.cell; have p1l := hK.lt; have p1z := hK.froz
  have p2r := hK.tail.row; have p2f := hK.tail.free; have p2c := hK.tail.cell; have p2l := hK.tail.lt; have p2z := hK.tail.froz
  have p3r := hK.tail.tail.row; have p3f := hK.tail.tail.free; have p3c := hK.tail.tail.cell; have p3l := hK.tail.tail.lt; have p3z := hK.tail.tail.froz
  have p4r := hK.tail.tail.tail.row; have p4f := hK.tail.tail.tail.free; have p4c := hK.tail.tail.tail.cell; have p4l := hK.tail.tail.tail.lt; have p4z := hK.tail.tail.tail.froz
  have p5r := hK.tail.tail.tail.tail.row; have p5f := hK.tail.tail.tail.tail.free; have p5c := hK.tail.tail.tail.tail.cell; have p5l := hK.tail.tail.tail.tail.lt; have p5z := hK.tail.tail.tail.tail.froz
  go_wp2_with fail
  refine (law_ok kJ (12) kJ_ok none _ (HG.out.below hK.below)).mono ?_
  rintro e wc19 ⟨rfl, hb6⟩
  have hK := hK.more hb6
  clear hb6 p1r p1f p1c p1l p1z p2r p2f p2c p2l p2z p3r p3f p3c p3l p3z p4r p4f p4c p4l p4z p5r p5f p5c p5l p5z
  have p1r := hK.row; have p1f := hK.free; have p1c := hK.cell; have p1l := hK.lt; have p1z := hK.froz
  have p2r := hK.tail.row; have p2f := hK.tail.free; have p2c := hK.tail.cell; have p2l := hK.tail.lt; have p2z := hK.tail.froz
  have p3r := hK.tail.tail.row; have p3f := hK.tail.tail.free; have p3c := hK.tail.tail.cell; have p3l := hK.tail.tail.lt; have p3z := hK.tail.tail.froz
  have p4r := hK.tail.tail.tail.row; have p4f := hK.tail.tail.tail.free; have p4c := hK.tail.tail.tail.cell; have p4l := hK.tail.tail.tail.lt; have p4z := hK.tail.tail.tail.froz
  have p5r := hK.tail.tail.tail.tail.row; have p5f := hK.tail.tail.tail.tail.free; have p5c := hK.tail.tail.tail.tail.cell; have p5l := hK.tail.tail.tail.tail.lt; have p5z := hK.tail.tail.tail.tail.froz
  clear p1r p1f p1c p1l p1z p2r p2f p2c p2l p2z p3r p3f p3c p3l p3z p4r p4f p4c p4l p4z p5r p5f p5c p5l p5z
  have hb := hK.below
  have h01 := hK.lt
  clear hK n01 n02 n03 n04 n10 n12 n13 n14 n20 n21 n23 n24 n30 n31 n32 n34 n40 n41 n42 n43
  go_upto_region 18 with fail
  generalize hW : World.alloc _ _ = wg
  have hbg : Below w.heap.size w wg := by rw [← hW]; exact below_alloc hb _
  have hgd : ∃ g, w.heap.size ≤ g ∧ g < wg.heap.size ∧ Strs wg (some ⟨g, 0, none⟩) 13 goodL ∧ g = wc19.heap.size := ⟨_, hb.size, by rw [← hW]; simp, by rw [← hW]; exact strs_new wc19 goodL 9, rfl⟩
  obtain ⟨gg, hgg1, hgg2, hGd, hgg⟩ := hgd
  rw [← hgg]
  clear hW hgg hb
  go_upto_region 19 with fail
  generalize hW : World.alloc _ _ = wb
  have hbb : Below w.heap.size w wb := by rw [← hW]; exact below_alloc hbg _
  have hbd : ∃ g, w.heap.size ≤ g ∧ g < wb.heap.size ∧ Strs wb (some ⟨g, 0, none⟩) 15 badL ∧ g = wg.heap.size := ⟨_, hbg.size, by rw [← hW]; simp, by rw [← hW]; exact strs_new wg badL 9, rfl⟩
  have hGd2 : Strs wb (some ⟨gg, 0, none⟩) 13 goodL := by rw [← hW]; exact hGd.below ((Below.refl _ _).alloc (Nat.le_refl _) _)
  obtain ⟨gb, hgb1, hgb2, hBd, hgb⟩ := hbd
  rw [← hgb]
  clear hW hgb hGd hgg2 hbg
  have HGD := Lib.hid hGd2
  have HBD := Lib.hid hBd
  clear hGd2 hBd
  go_wp2_with fail
  go_loopw [9] (fun i wr => ∃ k : Nat, i = .int .i64 k ∧ k ≤ 13 ∧ Below wb.heap.size wb wr) (fun i _ => 13 - (intOf i).toNat)
  case atStart => exact ⟨0, rfl, by omega, Below.refl _ _⟩
  case round =>
    obtain ⟨k, rfl, hk, hbr⟩ := hrel
    by_cases hlt : k < 13
    · have hlt2 : (k : Int) < 13 := by omega
      obtain ⟨x, hx⟩ : ∃ x, goodL[k]? = some x := ⟨_, List.getElem?_eq_getElem (by show k < 13; exact hlt)⟩
      have HX := Lib.hid hx
      have hcell := HGD.out.is hbr hx
      clear hx
      go_upto_region 23 with fail
      rw [fold2]
      have hbw : Below w.heap.size w wr := below_more hbb hbr
      obtain ⟨r1, r2, r3, hxl⟩ := good_facts k hlt x HX.out
      have f1 : Fit s8 [(x, 2), ([122], 0)] := fit_subs2 s8 s8_f (by decide) x [122] 2 0 hxl (by simp) (by omega) (by omega)
      have f2 : Fit s10 [(x, 2), ([122], 0)] := fit_subs2 s10 s10_f (by decide) x [122] 2 0 hxl (by simp) (by omega) (by omega)
      have f3 : Fit s10 [(x, 0), ([122], 0)] := fit_subs2 s10 s10_f (by decide) x [122] 0 0 hxl (by simp) (by omega) (by omega)
      have hw1 : IntKind.i64.wrap (9 + (x.length : Int)) = 9 + (x.length : Int) := IntWalk.i64_in _ (by omega)
      have hw2 : IntKind.i64.wrap (7 + (x.length : Int)) = 7 + (x.length : Int) := IntWalk.i64_in _ (by omega)
      have R1 := Lib.hid r1
      have R2 := Lib.hid r2
      have R3 := Lib.hid r3
      clear r1 r2 r3
      have hK1 := ((Kp.nil wr).new (SbC x 2 ++ SbC [122] 0) 31).new (PkC ((zPk.s_ty 8).s_id 9) (some ⟨wr.heap.size, 0, none⟩) 2 2) 27
      simp only [World.size_alloc] at hK1
      generalize hww : World.alloc _ _ = wk at hK1 ⊢
      clear hww hcell
      have hK1 : Kp wr [(wr.heap.size + 1, PkC s8 (some ⟨wr.heap.size, 0, none⟩) 2 2, 27), (wr.heap.size, SbC x 2 ++ SbC [122] 0, 31)] wk := hK1
      go_cut [98] (fun s98 wx => s98 = .bool false ∧ Kp wr [(wr.heap.size + 1, PkC s8 (some ⟨wr.heap.size, 0, none⟩) 2 2, 27), (wr.heap.size, SbC x 2 ++ SbC [122] 0, 31)] wx)
      case first =>
        refine wp_region_held_drew (S := Kp wr [(wr.heap.size + 1, PkC s8 (some ⟨wr.heap.size, 0, none⟩) 2 2, 27), (wr.heap.size, SbC x 2 ++ SbC [122] 0, 31)]) (by kernel_rfl) hK1.drew (fun hHeld => ?_)
        refine wpAnyH_take (i := 0) (oi := ({ dst := some 90, op := Go.Op.load 27 (Go.Operand.tmp 10), type := 27, pos := "law.go:65", after := #[], guard := none } : Oper)) (v := ?vw1) rfl (by kernel_rfl) (by kernel_rfl) (by kernel_rfl) (fun _ _ _ h => h) (Or.inl ⟨by rfl, ?hz1⟩) (by assumption) ?rs1
        case hz1 => (intro wz hSw; (try have hq1 := hSw.tail.cell); (try have hq2 := hSw.tail.tail.cell); (try have hq3 := hSw.cell); (try have hq4 := hSw.tail.row); (try have hq5 := hSw.tail.tail.row); (try have hq6 := hSw.row); (try have hq7 := hSw.tail.tail.tail.row); (try clear hSw); go_simp; all_goals with_reducible rfl)
        try simp only [Act.put, List.setIfInBounds_toArray, List.set_cons_zero, List.set_cons_succ]
        refine wpAnyH_take (i := 1) (oi := ({ dst := some 91, op := Go.Op.move (Go.Operand.tmp 7), type := 29, pos := "law.go:65", after := #[], guard := none } : Oper)) (v := ?vw2) rfl (by kernel_rfl) (by kernel_rfl) (by kernel_rfl) (fun _ _ _ h => h) (Or.inl ⟨by rfl, ?hz2⟩) (by assumption) ?rs2
        case hz2 => (intro wz hSw; (try have hq1 := hSw.tail.cell); (try have hq2 := hSw.tail.tail.cell); (try have hq3 := hSw.cell); (try have hq4 := hSw.tail.row); (try have hq5 := hSw.tail.tail.row); (try have hq6 := hSw.row); (try have hq7 := hSw.tail.tail.tail.row); (try clear hSw); go_simp; all_goals with_reducible rfl)
        try simp only [Act.put, List.setIfInBounds_toArray, List.set_cons_zero, List.set_cons_succ]
        refine wpAnyH_take (i := 2) (oi := ({ dst := some 92, op := Go.Op.move (Go.Operand.tmp 9), type := 3, pos := "law.go:65", after := #[], guard := none } : Oper)) (v := ?vw3) rfl (by kernel_rfl) (by kernel_rfl) (by kernel_rfl) (fun _ _ _ h => h) (Or.inl ⟨by rfl, ?hz3⟩) (by assumption) ?rs3
        case hz3 => (intro wz hSw; (try have hq1 := hSw.tail.cell); (try have hq2 := hSw.tail.tail.cell); (try have hq3 := hSw.cell); (try have hq4 := hSw.tail.row); (try have hq5 := hSw.tail.tail.row); (try have hq6 := hSw.row); (try have hq7 := hSw.tail.tail.tail.row); (try clear hSw); go_simp; all_goals with_reducible rfl)
        try simp only [Act.put, List.setIfInBounds_toArray, List.set_cons_zero, List.set_cons_succ]
        refine wpAnyH_take (i := 3) (oi := ({ dst := some 93, op := Go.Op.indexAddr 29 (Go.Operand.tmp 91) (Go.Operand.tmp 92), type := 0, pos := "law.go:65", after := #[{ on := 1, ground := Go.Ground.data }, { on := 2, ground := Go.Ground.data }], guard := none } : Oper)) (v := ?vw4) rfl (by kernel_rfl) (by kernel_rfl) (by kernel_rfl) (fun _ _ _ h => h) (Or.inl ⟨by rfl, ?hz4⟩) (by assumption) ?rs4
        case hz4 => (intro wz hSw; (try have hq1 := hSw.tail.cell); (try have hq2 := hSw.tail.tail.cell); (try have hq3 := hSw.cell); (try have hq4 := hSw.tail.row); (try have hq5 := hSw.tail.tail.row); (try have hq6 := hSw.row); (try have hq7 := hSw.tail.tail.tail.row); (try clear hSw); go_simp; all_goals with_reducible rfl)
        try simp only [Act.put, List.setIfInBounds_toArray, List.set_cons_zero, List.set_cons_succ]
        refine wpAnyH_take (i := 4) (oi := ({ dst := some 94, op := Go.Op.load 9 (Go.Operand.tmp 93), type := 9, pos := "law.go:65", after := #[{ on := 3, ground := Go.Ground.data }], guard := none } : Oper)) (v := ?vw5) rfl (by kernel_rfl) (by kernel_rfl) (by kernel_rfl) (fun _ _ _ h => h) (Or.inl ⟨by rfl, ?hz5⟩) (by assumption) ?rs5
        case hz5 => (intro wz hSw; have z1 := HGD.out.is (below_more hbr hSw.below) HX.out; (try have hq1 := hSw.tail.cell); (try have hq2 := hSw.tail.tail.cell); (try have hq3 := hSw.cell); (try have hq4 := hSw.tail.row); (try have hq5 := hSw.tail.tail.row); (try have hq6 := hSw.row); (try have hq7 := hSw.tail.tail.tail.row); (try clear hSw); go_simp; all_goals with_reducible rfl)
        try simp only [Act.put, List.setIfInBounds_toArray, List.set_cons_zero, List.set_cons_succ]
        refine wpAnyH_take (i := 5) (oi := ({ dst := some 95, op := Go.Op.call { callee := Go.Callee.builtin Go.Builtin.len, args := #[Go.Operand.tmp 94], argTypes := #[9] }, type := 3, pos := "law.go:65", after := #[{ on := 4, ground := Go.Ground.data }], guard := none } : Oper)) (v := ?vw6) rfl (by kernel_rfl) (by kernel_rfl) (by kernel_rfl) (fun _ _ _ h => h) (Or.inl ⟨by rfl, ?hz6⟩) (by assumption) ?rs6
        case hz6 => (intro wz hSw; (try have hq1 := hSw.tail.cell); (try have hq2 := hSw.tail.tail.cell); (try have hq3 := hSw.cell); (try have hq4 := hSw.tail.row); (try have hq5 := hSw.tail.tail.row); (try have hq6 := hSw.row); (try have hq7 := hSw.tail.tail.tail.row); (try clear hSw); go_simp; all_goals with_reducible rfl)
        try simp only [Act.put, List.setIfInBounds_toArray, List.set_cons_zero, List.set_cons_succ]
        refine wpAnyH_take (i := 6) (oi := ({ dst := some 96, op := Go.Op.binOp Go.BinOp.add 3 (Go.Operand.const (Go.Value.int Go.IntKind.i64 9)) (Go.Operand.tmp 95) 3, type := 3, pos := "law.go:65", after := #[{ on := 5, ground := Go.Ground.data }], guard := none } : Oper)) (v := ?vw7) rfl (by kernel_rfl) (by kernel_rfl) (by kernel_rfl) (fun _ _ _ h => h) (Or.inl ⟨by rfl, ?hz7⟩) (by assumption) ?rs7
        case hz7 => (intro wz hSw; (try have hq1 := hSw.tail.cell); (try have hq2 := hSw.tail.tail.cell); (try have hq3 := hSw.cell); (try have hq4 := hSw.tail.row); (try have hq5 := hSw.tail.tail.row); (try have hq6 := hSw.row); (try have hq7 := hSw.tail.tail.tail.row); (try clear hSw); go_simp; all_goals with_reducible rfl)
        try simp only [Act.put, List.setIfInBounds_toArray, List.set_cons_zero, List.set_cons_succ]
        refine wpAnyH_ready (rs := [7]) (by kernel_rfl) (by simp) ?_
        refine (AllReadyH.cons (o := ({ dst := some 97, op := Go.Op.call { callee := Go.Callee.value (Go.Operand.func 9), args := #[Go.Operand.tmp 90, Go.Operand.tmp 96], argTypes := #[27, 3] }, type := 4, pos := "law.go:65", after := #[{ on := 0, ground := Go.Ground.data }, { on := 6, ground := Go.Ground.data }], guard := none } : Oper)) rfl (fun K hK => ?_) AllReadyH.nil)
        go_simp
        (go_at_call 9; refine (restLaw_yes s8 _ 2 2 [(x, 2), ([122], 0)] (9 + (x.length : Int)) _ (HG.out.below (below_more hbw hHeld.below)) (subs_two hHeld.tail.row hHeld.tail.lt) f1 R1.out).mono ?_; rintro e w7 ⟨rfl, hb6⟩)
        refine hK.out _ _ (by first | exact hHeld.more hb6 | exact hHeld | exact below_more hHeld hb6) (fun hHeld1 => ?_)
        clear hHeld; have hHeld := hHeld1; clear hHeld1 hK K
        try simp only [Act.put, List.setIfInBounds_toArray, List.set_cons_zero, List.set_cons_succ]
        refine wpAnyH_take (i := 8) (oi := ({ dst := some 98, op := Go.Op.unOp Go.UnOp.not 4 (Go.Operand.tmp 97), type := 4, pos := "law.go:65", after := #[{ on := 7, ground := Go.Ground.data }], guard := none } : Oper)) (v := ?vw8) rfl (by kernel_rfl) (by kernel_rfl) (by kernel_rfl) (fun _ _ _ h => h) (Or.inl ⟨by rfl, ?hz8⟩) (by assumption) ?rs8
        case hz8 => (intro wz hSw; (try have hq1 := hSw.tail.cell); (try have hq2 := hSw.tail.tail.cell); (try have hq3 := hSw.cell); (try have hq4 := hSw.tail.row); (try have hq5 := hSw.tail.tail.row); (try have hq6 := hSw.row); (try have hq7 := hSw.tail.tail.tail.row); (try clear hSw); go_simp; all_goals with_reducible rfl)
        try simp only [Act.put, List.setIfInBounds_toArray, List.set_cons_zero, List.set_cons_succ]
        refine wpAnyH_done (by kernel_rfl) ?_ _
        go_wp2_with fail
        go_meet
        case rel => exact ⟨rfl, hHeld⟩
      obtain ⟨rfl, hK2⟩ := hcut
      clear hK1
      have p1r := hK2.row; have p1f := hK2.free; have p1c := hK2.cell; have p1l := hK2.lt; have p1z := hK2.froz
      have p2r := hK2.tail.row; have p2f := hK2.tail.free; have p2c := hK2.tail.cell; have p2l := hK2.tail.lt; have p2z := hK2.tail.froz
      go_upto_region 26 with fail
      have hK3 := hK2.set (by intro y hy; simp at hy; subst hy; simp) (PkC (s8.s_ty 10) (some ⟨wr.heap.size, 0, none⟩) 2 2)
      generalize hww : World.setRow _ _ _ = wk3 at hK3 ⊢
      have hK3 : Kp wr [(wr.heap.size + 1, PkC s10 (some ⟨wr.heap.size, 0, none⟩) 2 2, 27), (wr.heap.size, SbC x 2 ++ SbC [122] 0, 31)] wk3 := hK3
      clear hww hK2 p1r p1f p1c p1l p1z p2r p2f p2c p2l p2z
      have p1r := hK3.row; have p1f := hK3.free; have p1c := hK3.cell; have p1l := hK3.lt; have p1z := hK3.froz
      have p2r := hK3.tail.row; have p2f := hK3.tail.free; have p2c := hK3.tail.cell; have p2l := hK3.tail.lt; have p2z := hK3.tail.froz
      go_wp2_with fail
      refine (restLaw_yes s10 _ 2 2 [(x, 2), ([122], 0)] (-1) _ (HG.out.below (below_more hbw hK3.below)) (subs_two hK3.tail.row hK3.tail.lt) f2 R2.out).mono ?_
      rintro e w9 ⟨rfl, hb6⟩
      have hK4 := hK3.more hb6
      clear hb6 hK3 p1r p1f p1c p1l p1z p2r p2f p2c p2l p2z
      have p1r := hK4.row; have p1f := hK4.free; have p1c := hK4.cell; have p1l := hK4.lt; have p1z := hK4.froz
      have p2r := hK4.tail.row; have p2f := hK4.tail.free; have p2c := hK4.tail.cell; have p2l := hK4.tail.lt; have p2z := hK4.tail.froz
      go_upto_region 29 with fail
      have hK5 := (hK4.swap.set (by intro y hy; simp at hy; subst hy; simp) (SbC x 0 ++ SbC [122] 0)).swap
      generalize hww : World.setRow _ _ _ = wk5 at hK5 ⊢
      clear hww hK4 p1r p1f p1c p1l p1z p2r p2f p2c p2l p2z
      go_cut [115] (fun s115 wx => s115 = .bool false ∧ Kp wr [(wr.heap.size + 1, PkC s10 (some ⟨wr.heap.size, 0, none⟩) 2 2, 27), (wr.heap.size, SbC x 0 ++ SbC [122] 0, 31)] wx)
      case first =>
        refine wp_region_held_drew (S := Kp wr [(wr.heap.size + 1, PkC s10 (some ⟨wr.heap.size, 0, none⟩) 2 2, 27), (wr.heap.size, SbC x 0 ++ SbC [122] 0, 31)]) (by kernel_rfl) hK5.drew (fun hHeld => ?_)
        refine wpAnyH_take (i := 0) (oi := ({ dst := some 107, op := Go.Op.load 27 (Go.Operand.tmp 10), type := 27, pos := "law.go:73", after := #[], guard := none } : Oper)) (v := ?vw9) rfl (by kernel_rfl) (by kernel_rfl) (by kernel_rfl) (fun _ _ _ h => h) (Or.inl ⟨by rfl, ?hz9⟩) (by assumption) ?rs9
        case hz9 => (intro wz hSw; (try have hq1 := hSw.tail.cell); (try have hq2 := hSw.tail.tail.cell); (try have hq3 := hSw.cell); (try have hq4 := hSw.tail.row); (try have hq5 := hSw.tail.tail.row); (try have hq6 := hSw.row); (try have hq7 := hSw.tail.tail.tail.row); (try clear hSw); go_simp; all_goals with_reducible rfl)
        try simp only [Act.put, List.setIfInBounds_toArray, List.set_cons_zero, List.set_cons_succ]
        refine wpAnyH_take (i := 1) (oi := ({ dst := some 108, op := Go.Op.move (Go.Operand.tmp 7), type := 29, pos := "law.go:73", after := #[], guard := none } : Oper)) (v := ?vw10) rfl (by kernel_rfl) (by kernel_rfl) (by kernel_rfl) (fun _ _ _ h => h) (Or.inl ⟨by rfl, ?hz10⟩) (by assumption) ?rs10
        case hz10 => (intro wz hSw; (try have hq1 := hSw.tail.cell); (try have hq2 := hSw.tail.tail.cell); (try have hq3 := hSw.cell); (try have hq4 := hSw.tail.row); (try have hq5 := hSw.tail.tail.row); (try have hq6 := hSw.row); (try have hq7 := hSw.tail.tail.tail.row); (try clear hSw); go_simp; all_goals with_reducible rfl)
        try simp only [Act.put, List.setIfInBounds_toArray, List.set_cons_zero, List.set_cons_succ]
        refine wpAnyH_take (i := 2) (oi := ({ dst := some 109, op := Go.Op.move (Go.Operand.tmp 9), type := 3, pos := "law.go:73", after := #[], guard := none } : Oper)) (v := ?vw11) rfl (by kernel_rfl) (by kernel_rfl) (by kernel_rfl) (fun _ _ _ h => h) (Or.inl ⟨by rfl, ?hz11⟩) (by assumption) ?rs11
        case hz11 => (intro wz hSw; (try have hq1 := hSw.tail.cell); (try have hq2 := hSw.tail.tail.cell); (try have hq3 := hSw.cell); (try have hq4 := hSw.tail.row); (try have hq5 := hSw.tail.tail.row); (try have hq6 := hSw.row); (try have hq7 := hSw.tail.tail.tail.row); (try clear hSw); go_simp; all_goals with_reducible rfl)
        try simp only [Act.put, List.setIfInBounds_toArray, List.set_cons_zero, List.set_cons_succ]
        refine wpAnyH_take (i := 3) (oi := ({ dst := some 110, op := Go.Op.indexAddr 29 (Go.Operand.tmp 108) (Go.Operand.tmp 109), type := 0, pos := "law.go:73", after := #[{ on := 1, ground := Go.Ground.data }, { on := 2, ground := Go.Ground.data }], guard := none } : Oper)) (v := ?vw12) rfl (by kernel_rfl) (by kernel_rfl) (by kernel_rfl) (fun _ _ _ h => h) (Or.inl ⟨by rfl, ?hz12⟩) (by assumption) ?rs12
        case hz12 => (intro wz hSw; (try have hq1 := hSw.tail.cell); (try have hq2 := hSw.tail.tail.cell); (try have hq3 := hSw.cell); (try have hq4 := hSw.tail.row); (try have hq5 := hSw.tail.tail.row); (try have hq6 := hSw.row); (try have hq7 := hSw.tail.tail.tail.row); (try clear hSw); go_simp; all_goals with_reducible rfl)
        try simp only [Act.put, List.setIfInBounds_toArray, List.set_cons_zero, List.set_cons_succ]
        refine wpAnyH_take (i := 4) (oi := ({ dst := some 111, op := Go.Op.load 9 (Go.Operand.tmp 110), type := 9, pos := "law.go:73", after := #[{ on := 3, ground := Go.Ground.data }], guard := none } : Oper)) (v := ?vw13) rfl (by kernel_rfl) (by kernel_rfl) (by kernel_rfl) (fun _ _ _ h => h) (Or.inl ⟨by rfl, ?hz13⟩) (by assumption) ?rs13
        case hz13 => (intro wz hSw; have z1 := HGD.out.is (below_more hbr hSw.below) HX.out; (try have hq1 := hSw.tail.cell); (try have hq2 := hSw.tail.tail.cell); (try have hq3 := hSw.cell); (try have hq4 := hSw.tail.row); (try have hq5 := hSw.tail.tail.row); (try have hq6 := hSw.row); (try have hq7 := hSw.tail.tail.tail.row); (try clear hSw); go_simp; all_goals with_reducible rfl)
        try simp only [Act.put, List.setIfInBounds_toArray, List.set_cons_zero, List.set_cons_succ]
        refine wpAnyH_take (i := 5) (oi := ({ dst := some 112, op := Go.Op.call { callee := Go.Callee.builtin Go.Builtin.len, args := #[Go.Operand.tmp 111], argTypes := #[9] }, type := 3, pos := "law.go:73", after := #[{ on := 4, ground := Go.Ground.data }], guard := none } : Oper)) (v := ?vw14) rfl (by kernel_rfl) (by kernel_rfl) (by kernel_rfl) (fun _ _ _ h => h) (Or.inl ⟨by rfl, ?hz14⟩) (by assumption) ?rs14
        case hz14 => (intro wz hSw; (try have hq1 := hSw.tail.cell); (try have hq2 := hSw.tail.tail.cell); (try have hq3 := hSw.cell); (try have hq4 := hSw.tail.row); (try have hq5 := hSw.tail.tail.row); (try have hq6 := hSw.row); (try have hq7 := hSw.tail.tail.tail.row); (try clear hSw); go_simp; all_goals with_reducible rfl)
        try simp only [Act.put, List.setIfInBounds_toArray, List.set_cons_zero, List.set_cons_succ]
        refine wpAnyH_take (i := 6) (oi := ({ dst := some 113, op := Go.Op.binOp Go.BinOp.add 3 (Go.Operand.const (Go.Value.int Go.IntKind.i64 7)) (Go.Operand.tmp 112) 3, type := 3, pos := "law.go:73", after := #[{ on := 5, ground := Go.Ground.data }], guard := none } : Oper)) (v := ?vw15) rfl (by kernel_rfl) (by kernel_rfl) (by kernel_rfl) (fun _ _ _ h => h) (Or.inl ⟨by rfl, ?hz15⟩) (by assumption) ?rs15
        case hz15 => (intro wz hSw; (try have hq1 := hSw.tail.cell); (try have hq2 := hSw.tail.tail.cell); (try have hq3 := hSw.cell); (try have hq4 := hSw.tail.row); (try have hq5 := hSw.tail.tail.row); (try have hq6 := hSw.row); (try have hq7 := hSw.tail.tail.tail.row); (try clear hSw); go_simp; all_goals with_reducible rfl)
        try simp only [Act.put, List.setIfInBounds_toArray, List.set_cons_zero, List.set_cons_succ]
        refine wpAnyH_ready (rs := [7]) (by kernel_rfl) (by simp) ?_
        refine (AllReadyH.cons (o := ({ dst := some 114, op := Go.Op.call { callee := Go.Callee.value (Go.Operand.func 9), args := #[Go.Operand.tmp 107, Go.Operand.tmp 113], argTypes := #[27, 3] }, type := 4, pos := "law.go:73", after := #[{ on := 0, ground := Go.Ground.data }, { on := 6, ground := Go.Ground.data }], guard := none } : Oper)) rfl (fun K hK => ?_) AllReadyH.nil)
        go_simp
        (go_at_call 9; refine (restLaw_yes s10 _ 2 2 [(x, 0), ([122], 0)] (7 + (x.length : Int)) _ (HG.out.below (below_more hbw hHeld.below)) (subs_two hHeld.tail.row hHeld.tail.lt) f3 R3.out).mono ?_; rintro e w7 ⟨rfl, hb6⟩)
        refine hK.out _ _ (by first | exact hHeld.more hb6 | exact hHeld | exact below_more hHeld hb6) (fun hHeld1 => ?_)
        clear hHeld; have hHeld := hHeld1; clear hHeld1 hK K
        try simp only [Act.put, List.setIfInBounds_toArray, List.set_cons_zero, List.set_cons_succ]
        refine wpAnyH_take (i := 8) (oi := ({ dst := some 115, op := Go.Op.unOp Go.UnOp.not 4 (Go.Operand.tmp 114), type := 4, pos := "law.go:73", after := #[{ on := 7, ground := Go.Ground.data }], guard := none } : Oper)) (v := ?vw16) rfl (by kernel_rfl) (by kernel_rfl) (by kernel_rfl) (fun _ _ _ h => h) (Or.inl ⟨by rfl, ?hz16⟩) (by assumption) ?rs16
        case hz16 => (intro wz hSw; (try have hq1 := hSw.tail.cell); (try have hq2 := hSw.tail.tail.cell); (try have hq3 := hSw.cell); (try have hq4 := hSw.tail.row); (try have hq5 := hSw.tail.tail.row); (try have hq6 := hSw.row); (try have hq7 := hSw.tail.tail.tail.row); (try clear hSw); go_simp; all_goals with_reducible rfl)
        try simp only [Act.put, List.setIfInBounds_toArray, List.set_cons_zero, List.set_cons_succ]
        refine wpAnyH_done (by kernel_rfl) ?_ _
        go_wp2_with fail
        go_meet
        case rel => exact ⟨rfl, hHeld⟩
      obtain ⟨rfl, hK6⟩ := hcut
      clear hK5
      go_wp2_with fail
      go_roundw
      case rel => exact ⟨k + 1, by go_num, by omega, below_more hbr hK6.below⟩
      case measure => simp [intOf]; omega
    · have hge : ¬ (k : Int) < 13 := by omega
      clear hlt hk
      clear HGD
      go_wp2_with fail
      go_loopw [11] (fun i wr => ∃ k : Nat, i = .int .i64 k ∧ k ≤ 15 ∧ Below wb.heap.size wb wr) (fun i _ => 15 - (intOf i).toNat)
      case atStart => exact ⟨0, rfl, by omega, hbr⟩
      case round =>
        clear hbr
        obtain ⟨k, rfl, hk, hbr⟩ := hrel
        by_cases hlt : k < 15
        · have hlt2 : (k : Int) < 15 := by omega
          obtain ⟨x, hx⟩ : ∃ x, badL[k]? = some x := ⟨_, List.getElem?_eq_getElem (by show k < 15; exact hlt)⟩
          have HX := Lib.hid hx
          have hcell := HBD.out.is hbr hx
          have hbw : Below w.heap.size w wr := below_more hbb hbr
          obtain ⟨r1, r2, hxl⟩ := bad_facts k hlt x hx
          have f1 : Fit s8 [([122], 0), (x, 0)] := fit_subs2 s8 s8_f (by decide) [122] x 0 0 (by simp) hxl (by omega) (by omega)
          have f2 : Fit ((zPk.s_ty 3).s_topic x) [] := topic_f x hxl
          have R1 := Lib.hid r1
          have R2 := Lib.hid r2
          clear r1 r2 hx
          go_wp2_with fail
          refine (restLaw_yes s8 (some ⟨wr.heap.size, 0, none⟩) 2 2 [([122], 0), (x, 0)] (-1) _ (HG.out.below (below_more hbw ((Below.refl _ _).alloc (Nat.le_refl _) _))) (subs_two (by rw [rowAt_alloc_at _ _ _ rfl]; exact fold2 _ _ _ _) (by simp)) f1 R1.out).mono ?_
          rintro e w9 ⟨rfl, hb6⟩
          have hb9 : Below wr.heap.size wr w9 := below_more ((Below.refl _ _).alloc (Nat.le_refl _) _) hb6
          have hbr9 := below_more hbr hb9
          have hbw9 := below_more hbb hbr9
          have hcell9 := HBD.out.is hbr9 HX.out
          clear hb6 hb9 hcell hbw
          go_wp2_with fail
          refine (law_ok ((zPk.s_ty 3).s_topic x) (-1) ⟨f2, R2.out⟩ none _ (HG.out.below hbw9)).mono ?_
          rintro e w10 ⟨rfl, hb6⟩
          have hbr10 := below_more hbr9 hb6
          clear hb6 hcell9 hbw9 hbr9
          go_wp2_with fail
          go_roundw
          case rel => exact ⟨k + 1, by go_num, by omega, hbr10⟩
          case measure => simp [intOf]; omega
        · have hge2 : ¬ (k : Int) < 15 := by omega
          clear hlt hk HBD
          go_wp2_with fail
          go_loopw [12] (fun i wr => ∃ k : Nat, i = .int .u8 k ∧ k ≤ 20 ∧ Below wb.heap.size wb wr) (fun i _ => 20 - (intOf i).toNat)
          case atStart => exact ⟨0, rfl, by omega, hbr⟩
          case round =>
            clear hbr
            obtain ⟨k, rfl, hk, hbr⟩ := hrel
            have hbw : Below w.heap.size w wr := below_more hbb hbr
            by_cases hlt : k < 20
            · obtain ⟨o1, o2⟩ := kind_facts k hlt
              have O1 := Lib.hid o1
              have O2 := Lib.hid o2
              clear o1 o2
              have h20 : k = 0 ∨ k = 1 ∨ k = 2 ∨ k = 3 ∨ k = 4 ∨ k = 5 ∨ k = 6 ∨ k = 7 ∨ k = 8 ∨ k = 9 ∨ k = 10 ∨ k = 11 ∨ k = 12 ∨ k = 13 ∨ k = 14 ∨ k = 15 ∨ k = 16 ∨ k = 17 ∨ k = 18 ∨ k = 19 := by omega
              clear hlt hk
              rcases h20 with rfl | rfl | rfl | rfl | rfl | rfl | rfl | rfl | rfl | rfl | rfl | rfl | rfl | rfl | rfl | rfl | rfl | rfl | rfl | rfl
              · have O1 : Hid (Ok ((zPk.s_ty 0).s_id 65535) (-1)) := O1
                have O2 : Hid (Ok (zPk.s_ty 0) (-1)) := O2
                go_wp2_with fail
                refine (law_ok ((zPk.s_ty 0).s_id 65535) (-1) O1.out none _ (HG.out.below hbw)).mono ?_
                rintro e w9 ⟨rfl, hb6⟩
                have hbr9 := below_more hbr hb6
                have hbw9 := below_more hbb hbr9
                clear hb6
                go_wp2_with fail
                refine (law_ok (zPk.s_ty 0) (-1) O2.out none _ (HG.out.below hbw9)).mono ?_
                rintro e w10 ⟨rfl, hb6⟩
                have hbr10 := below_more hbr9 hb6
                clear hb6 hbw9 hbr9
                go_wp2_with fail
                go_roundw
                case rel => exact ⟨1, by go_num, by omega, hbr10⟩
                case measure => simp [intOf]
              · have O1 : Hid (Ok ((zPk.s_ty 1).s_id 65535) (-1)) := O1
                have O2 : Hid (Ok (zPk.s_ty 1) (-1)) := O2
                go_wp2_with fail
                refine (law_ok ((zPk.s_ty 1).s_id 65535) (-1) O1.out none _ (HG.out.below hbw)).mono ?_
                rintro e w9 ⟨rfl, hb6⟩
                have hbr9 := below_more hbr hb6
                have hbw9 := below_more hbb hbr9
                clear hb6
                go_wp2_with fail
                refine (law_ok (zPk.s_ty 1) (-1) O2.out none _ (HG.out.below hbw9)).mono ?_
                rintro e w10 ⟨rfl, hb6⟩
                have hbr10 := below_more hbr9 hb6
                clear hb6 hbw9 hbr9
                go_wp2_with fail
                go_roundw
                case rel => exact ⟨2, by go_num, by omega, hbr10⟩
                case measure => simp [intOf]
              · have O1 : Hid (Ok ((zPk.s_ty 2).s_id 65535) (-1)) := O1
                have O2 : Hid (Ok (zPk.s_ty 2) (2)) := O2
                go_wp2_with fail
                refine (law_ok ((zPk.s_ty 2).s_id 65535) (-1) O1.out none _ (HG.out.below hbw)).mono ?_
                rintro e w9 ⟨rfl, hb6⟩
                have hbr9 := below_more hbr hb6
                have hbw9 := below_more hbb hbr9
                clear hb6
                go_wp2_with fail
                refine (law_ok (zPk.s_ty 2) (2) O2.out none _ (HG.out.below hbw9)).mono ?_
                rintro e w10 ⟨rfl, hb6⟩
                have hbr10 := below_more hbr9 hb6
                clear hb6 hbw9 hbr9
                go_wp2_with fail
                go_roundw
                case rel => exact ⟨3, by go_num, by omega, hbr10⟩
                case measure => simp [intOf]
              · have O1 : Hid (Ok ((zPk.s_ty 3).s_id 65535) (-1)) := O1
                have O2 : Hid (Ok (zPk.s_ty 3) (-1)) := O2
                go_wp2_with fail
                refine (law_ok ((zPk.s_ty 3).s_id 65535) (-1) O1.out none _ (HG.out.below hbw)).mono ?_
                rintro e w9 ⟨rfl, hb6⟩
                have hbr9 := below_more hbr hb6
                have hbw9 := below_more hbb hbr9
                clear hb6
                go_wp2_with fail
                refine (law_ok (zPk.s_ty 3) (-1) O2.out none _ (HG.out.below hbw9)).mono ?_
                rintro e w10 ⟨rfl, hb6⟩
                have hbr10 := below_more hbr9 hb6
                clear hb6 hbw9 hbr9
                go_wp2_with fail
                go_roundw
                case rel => exact ⟨4, by go_num, by omega, hbr10⟩
                case measure => simp [intOf]
              · have O1 : Hid (Ok ((zPk.s_ty 4).s_id 65535) (2)) := O1
                have O2 : Hid (Ok (zPk.s_ty 4) (-1)) := O2
                go_wp2_with fail
                refine (law_ok ((zPk.s_ty 4).s_id 65535) (2) O1.out none _ (HG.out.below hbw)).mono ?_
                rintro e w9 ⟨rfl, hb6⟩
                have hbr9 := below_more hbr hb6
                have hbw9 := below_more hbb hbr9
                clear hb6
                go_wp2_with fail
                refine (law_ok (zPk.s_ty 4) (-1) O2.out none _ (HG.out.below hbw9)).mono ?_
                rintro e w10 ⟨rfl, hb6⟩
                have hbr10 := below_more hbr9 hb6
                clear hb6 hbw9 hbr9
                go_wp2_with fail
                go_roundw
                case rel => exact ⟨5, by go_num, by omega, hbr10⟩
                case measure => simp [intOf]
              · have O1 : Hid (Ok ((zPk.s_ty 5).s_id 65535) (2)) := O1
                have O2 : Hid (Ok (zPk.s_ty 5) (-1)) := O2
                go_wp2_with fail
                refine (law_ok ((zPk.s_ty 5).s_id 65535) (2) O1.out none _ (HG.out.below hbw)).mono ?_
                rintro e w9 ⟨rfl, hb6⟩
                have hbr9 := below_more hbr hb6
                have hbw9 := below_more hbb hbr9
                clear hb6
                go_wp2_with fail
                refine (law_ok (zPk.s_ty 5) (-1) O2.out none _ (HG.out.below hbw9)).mono ?_
                rintro e w10 ⟨rfl, hb6⟩
                have hbr10 := below_more hbr9 hb6
                clear hb6 hbw9 hbr9
                go_wp2_with fail
                go_roundw
                case rel => exact ⟨6, by go_num, by omega, hbr10⟩
                case measure => simp [intOf]
              · have O1 : Hid (Ok ((zPk.s_ty 6).s_id 65535) (2)) := O1
                have O2 : Hid (Ok (zPk.s_ty 6) (-1)) := O2
                go_wp2_with fail
                refine (law_ok ((zPk.s_ty 6).s_id 65535) (2) O1.out none _ (HG.out.below hbw)).mono ?_
                rintro e w9 ⟨rfl, hb6⟩
                have hbr9 := below_more hbr hb6
                have hbw9 := below_more hbb hbr9
                clear hb6
                go_wp2_with fail
                refine (law_ok (zPk.s_ty 6) (-1) O2.out none _ (HG.out.below hbw9)).mono ?_
                rintro e w10 ⟨rfl, hb6⟩
                have hbr10 := below_more hbr9 hb6
                clear hb6 hbw9 hbr9
                go_wp2_with fail
                go_roundw
                case rel => exact ⟨7, by go_num, by omega, hbr10⟩
                case measure => simp [intOf]
              · have O1 : Hid (Ok ((zPk.s_ty 7).s_id 65535) (2)) := O1
                have O2 : Hid (Ok (zPk.s_ty 7) (-1)) := O2
                go_wp2_with fail
                refine (law_ok ((zPk.s_ty 7).s_id 65535) (2) O1.out none _ (HG.out.below hbw)).mono ?_
                rintro e w9 ⟨rfl, hb6⟩
                have hbr9 := below_more hbr hb6
                have hbw9 := below_more hbb hbr9
                clear hb6
                go_wp2_with fail
                refine (law_ok (zPk.s_ty 7) (-1) O2.out none _ (HG.out.below hbw9)).mono ?_
                rintro e w10 ⟨rfl, hb6⟩
                have hbr10 := below_more hbr9 hb6
                clear hb6 hbw9 hbr9
                go_wp2_with fail
                go_roundw
                case rel => exact ⟨8, by go_num, by omega, hbr10⟩
                case measure => simp [intOf]
              · have O1 : Hid (Ok ((zPk.s_ty 8).s_id 65535) (-1)) := O1
                have O2 : Hid (Ok (zPk.s_ty 8) (-1)) := O2
                go_wp2_with fail
                refine (law_ok ((zPk.s_ty 8).s_id 65535) (-1) O1.out none _ (HG.out.below hbw)).mono ?_
                rintro e w9 ⟨rfl, hb6⟩
                have hbr9 := below_more hbr hb6
                have hbw9 := below_more hbb hbr9
                clear hb6
                go_wp2_with fail
                refine (law_ok (zPk.s_ty 8) (-1) O2.out none _ (HG.out.below hbw9)).mono ?_
                rintro e w10 ⟨rfl, hb6⟩
                have hbr10 := below_more hbr9 hb6
                clear hb6 hbw9 hbr9
                go_wp2_with fail
                go_roundw
                case rel => exact ⟨9, by go_num, by omega, hbr10⟩
                case measure => simp [intOf]
              · have O1 : Hid (Ok ((zPk.s_ty 9).s_id 65535) (-1)) := O1
                have O2 : Hid (Ok (zPk.s_ty 9) (-1)) := O2
                go_wp2_with fail
                refine (law_ok ((zPk.s_ty 9).s_id 65535) (-1) O1.out none _ (HG.out.below hbw)).mono ?_
                rintro e w9 ⟨rfl, hb6⟩
                have hbr9 := below_more hbr hb6
                have hbw9 := below_more hbb hbr9
                clear hb6
                go_wp2_with fail
                refine (law_ok (zPk.s_ty 9) (-1) O2.out none _ (HG.out.below hbw9)).mono ?_
                rintro e w10 ⟨rfl, hb6⟩
                have hbr10 := below_more hbr9 hb6
                clear hb6 hbw9 hbr9
                go_wp2_with fail
                go_roundw
                case rel => exact ⟨10, by go_num, by omega, hbr10⟩
                case measure => simp [intOf]
              · have O1 : Hid (Ok ((zPk.s_ty 10).s_id 65535) (-1)) := O1
                have O2 : Hid (Ok (zPk.s_ty 10) (-1)) := O2
                go_wp2_with fail
                refine (law_ok ((zPk.s_ty 10).s_id 65535) (-1) O1.out none _ (HG.out.below hbw)).mono ?_
                rintro e w9 ⟨rfl, hb6⟩
                have hbr9 := below_more hbr hb6
                have hbw9 := below_more hbb hbr9
                clear hb6
                go_wp2_with fail
                refine (law_ok (zPk.s_ty 10) (-1) O2.out none _ (HG.out.below hbw9)).mono ?_
                rintro e w10 ⟨rfl, hb6⟩
                have hbr10 := below_more hbr9 hb6
                clear hb6 hbw9 hbr9
                go_wp2_with fail
                go_roundw
                case rel => exact ⟨11, by go_num, by omega, hbr10⟩
                case measure => simp [intOf]
              · have O1 : Hid (Ok ((zPk.s_ty 11).s_id 65535) (2)) := O1
                have O2 : Hid (Ok (zPk.s_ty 11) (-1)) := O2
                go_wp2_with fail
                refine (law_ok ((zPk.s_ty 11).s_id 65535) (2) O1.out none _ (HG.out.below hbw)).mono ?_
                rintro e w9 ⟨rfl, hb6⟩
                have hbr9 := below_more hbr hb6
                have hbw9 := below_more hbb hbr9
                clear hb6
                go_wp2_with fail
                refine (law_ok (zPk.s_ty 11) (-1) O2.out none _ (HG.out.below hbw9)).mono ?_
                rintro e w10 ⟨rfl, hb6⟩
                have hbr10 := below_more hbr9 hb6
                clear hb6 hbw9 hbr9
                go_wp2_with fail
                go_roundw
                case rel => exact ⟨12, by go_num, by omega, hbr10⟩
                case measure => simp [intOf]
              · have O1 : Hid (Ok ((zPk.s_ty 12).s_id 65535) (-1)) := O1
                have O2 : Hid (Ok (zPk.s_ty 12) (0)) := O2
                go_wp2_with fail
                refine (law_ok ((zPk.s_ty 12).s_id 65535) (-1) O1.out none _ (HG.out.below hbw)).mono ?_
                rintro e w9 ⟨rfl, hb6⟩
                have hbr9 := below_more hbr hb6
                have hbw9 := below_more hbb hbr9
                clear hb6
                go_wp2_with fail
                refine (law_ok (zPk.s_ty 12) (0) O2.out none _ (HG.out.below hbw9)).mono ?_
                rintro e w10 ⟨rfl, hb6⟩
                have hbr10 := below_more hbr9 hb6
                clear hb6 hbw9 hbr9
                go_wp2_with fail
                go_roundw
                case rel => exact ⟨13, by go_num, by omega, hbr10⟩
                case measure => simp [intOf]
              · have O1 : Hid (Ok ((zPk.s_ty 13).s_id 65535) (-1)) := O1
                have O2 : Hid (Ok (zPk.s_ty 13) (0)) := O2
                go_wp2_with fail
                refine (law_ok ((zPk.s_ty 13).s_id 65535) (-1) O1.out none _ (HG.out.below hbw)).mono ?_
                rintro e w9 ⟨rfl, hb6⟩
                have hbr9 := below_more hbr hb6
                have hbw9 := below_more hbb hbr9
                clear hb6
                go_wp2_with fail
                refine (law_ok (zPk.s_ty 13) (0) O2.out none _ (HG.out.below hbw9)).mono ?_
                rintro e w10 ⟨rfl, hb6⟩
                have hbr10 := below_more hbr9 hb6
                clear hb6 hbw9 hbr9
                go_wp2_with fail
                go_roundw
                case rel => exact ⟨14, by go_num, by omega, hbr10⟩
                case measure => simp [intOf]
              · have O1 : Hid (Ok ((zPk.s_ty 14).s_id 65535) (-1)) := O1
                have O2 : Hid (Ok (zPk.s_ty 14) (0)) := O2
                go_wp2_with fail
                refine (law_ok ((zPk.s_ty 14).s_id 65535) (-1) O1.out none _ (HG.out.below hbw)).mono ?_
                rintro e w9 ⟨rfl, hb6⟩
                have hbr9 := below_more hbr hb6
                have hbw9 := below_more hbb hbr9
                clear hb6
                go_wp2_with fail
                refine (law_ok (zPk.s_ty 14) (0) O2.out none _ (HG.out.below hbw9)).mono ?_
                rintro e w10 ⟨rfl, hb6⟩
                have hbr10 := below_more hbr9 hb6
                clear hb6 hbw9 hbr9
                go_wp2_with fail
                go_roundw
                case rel => exact ⟨15, by go_num, by omega, hbr10⟩
                case measure => simp [intOf]
              · have O1 : Hid (Ok ((zPk.s_ty 15).s_id 65535) (-1)) := O1
                have O2 : Hid (Ok (zPk.s_ty 15) (-1)) := O2
                go_wp2_with fail
                refine (law_ok ((zPk.s_ty 15).s_id 65535) (-1) O1.out none _ (HG.out.below hbw)).mono ?_
                rintro e w9 ⟨rfl, hb6⟩
                have hbr9 := below_more hbr hb6
                have hbw9 := below_more hbb hbr9
                clear hb6
                go_wp2_with fail
                refine (law_ok (zPk.s_ty 15) (-1) O2.out none _ (HG.out.below hbw9)).mono ?_
                rintro e w10 ⟨rfl, hb6⟩
                have hbr10 := below_more hbr9 hb6
                clear hb6 hbw9 hbr9
                go_wp2_with fail
                go_roundw
                case rel => exact ⟨16, by go_num, by omega, hbr10⟩
                case measure => simp [intOf]
              · have O1 : Hid (Ok ((zPk.s_ty 16).s_id 65535) (-1)) := O1
                have O2 : Hid (Ok (zPk.s_ty 16) (-1)) := O2
                go_wp2_with fail
                refine (law_ok ((zPk.s_ty 16).s_id 65535) (-1) O1.out none _ (HG.out.below hbw)).mono ?_
                rintro e w9 ⟨rfl, hb6⟩
                have hbr9 := below_more hbr hb6
                have hbw9 := below_more hbb hbr9
                clear hb6
                go_wp2_with fail
                refine (law_ok (zPk.s_ty 16) (-1) O2.out none _ (HG.out.below hbw9)).mono ?_
                rintro e w10 ⟨rfl, hb6⟩
                have hbr10 := below_more hbr9 hb6
                clear hb6 hbw9 hbr9
                go_wp2_with fail
                go_roundw
                case rel => exact ⟨17, by go_num, by omega, hbr10⟩
                case measure => simp [intOf]
              · have O1 : Hid (Ok ((zPk.s_ty 17).s_id 65535) (-1)) := O1
                have O2 : Hid (Ok (zPk.s_ty 17) (-1)) := O2
                go_wp2_with fail
                refine (law_ok ((zPk.s_ty 17).s_id 65535) (-1) O1.out none _ (HG.out.below hbw)).mono ?_
                rintro e w9 ⟨rfl, hb6⟩
                have hbr9 := below_more hbr hb6
                have hbw9 := below_more hbb hbr9
                clear hb6
                go_wp2_with fail
                refine (law_ok (zPk.s_ty 17) (-1) O2.out none _ (HG.out.below hbw9)).mono ?_
                rintro e w10 ⟨rfl, hb6⟩
                have hbr10 := below_more hbr9 hb6
                clear hb6 hbw9 hbr9
                go_wp2_with fail
                go_roundw
                case rel => exact ⟨18, by go_num, by omega, hbr10⟩
                case measure => simp [intOf]
              · have O1 : Hid (Ok ((zPk.s_ty 18).s_id 65535) (-1)) := O1
                have O2 : Hid (Ok (zPk.s_ty 18) (-1)) := O2
                go_wp2_with fail
                refine (law_ok ((zPk.s_ty 18).s_id 65535) (-1) O1.out none _ (HG.out.below hbw)).mono ?_
                rintro e w9 ⟨rfl, hb6⟩
                have hbr9 := below_more hbr hb6
                have hbw9 := below_more hbb hbr9
                clear hb6
                go_wp2_with fail
                refine (law_ok (zPk.s_ty 18) (-1) O2.out none _ (HG.out.below hbw9)).mono ?_
                rintro e w10 ⟨rfl, hb6⟩
                have hbr10 := below_more hbr9 hb6
                clear hb6 hbw9 hbr9
                go_wp2_with fail
                go_roundw
                case rel => exact ⟨19, by go_num, by omega, hbr10⟩
                case measure => simp [intOf]
              · have O1 : Hid (Ok ((zPk.s_ty 19).s_id 65535) (-1)) := O1
                have O2 : Hid (Ok (zPk.s_ty 19) (-1)) := O2
                go_wp2_with fail
                refine (law_ok ((zPk.s_ty 19).s_id 65535) (-1) O1.out none _ (HG.out.below hbw)).mono ?_
                rintro e w9 ⟨rfl, hb6⟩
                have hbr9 := below_more hbr hb6
                have hbw9 := below_more hbb hbr9
                clear hb6
                go_wp2_with fail
                refine (law_ok (zPk.s_ty 19) (-1) O2.out none _ (HG.out.below hbw9)).mono ?_
                rintro e w10 ⟨rfl, hb6⟩
                have hbr10 := below_more hbr9 hb6
                clear hb6 hbw9 hbr9
                go_wp2_with fail
                go_roundw
                case rel => exact ⟨20, by go_num, by omega, hbr10⟩
                case measure => simp [intOf]
            · have hge3 : ¬ (k : Int) < 20 := by omega
              clear hlt hk
              have hfin := hbw
              clear hbr hbb hbw
              go_wp2_with fail
              refine (law_ok kK (4) kK_ok none _ (HG.out.below hfin)).mono ?_
              rintro e wqkK ⟨rfl, hb6⟩
              replace hfin := below_more hfin hb6
              clear hb6
              go_wp2_with fail
              refine (law_ok kL (-1) kL_ok none _ (HG.out.below hfin)).mono ?_
              rintro e wqkL ⟨rfl, hb6⟩
              replace hfin := below_more hfin hb6
              clear hb6
              go_wp2_with fail
              refine (law_ok kM (2) kM_ok none _ (HG.out.below hfin)).mono ?_
              rintro e wqkM ⟨rfl, hb6⟩
              replace hfin := below_more hfin hb6
              clear hb6
              go_wp2_with fail
              refine (law_ok kN (-1) kN_ok none _ (HG.out.below hfin)).mono ?_
              rintro e wqkN ⟨rfl, hb6⟩
              replace hfin := below_more hfin hb6
              clear hb6
              go_wp2_with fail
              refine (law_ok kO (-1) kO_ok none _ (HG.out.below hfin)).mono ?_
              rintro e wqkO ⟨rfl, hb6⟩
              replace hfin := below_more hfin hb6
              clear hb6
              go_wp2_with fail
              refine (law_ok kP (-1) kP_ok none _ (HG.out.below hfin)).mono ?_
              rintro e wqkP ⟨rfl, hb6⟩
              replace hfin := below_more hfin hb6
              clear hb6
              go_wp2_with fail
              refine (law_ok kQ (-1) kQ_ok none _ (HG.out.below hfin)).mono ?_
              rintro e wqkQ ⟨rfl, hb6⟩
              replace hfin := below_more hfin hb6
              clear hb6
              go_wp2_with fail
              refine (awake_any _ (HG.out.below hfin)).mono ?_
              rintro e wq ⟨rfl, hb6⟩
              go_wp2_with fail
              go_ret
              exact ⟨rfl, below_more hfin hb6⟩
end lawPacketKnown
end Go.Proofs.YtbbmfhelncedcaaDoor
