/-
  keep: New, May, Set, Get, Len of the program.
-/
import Derived.Test.YthhadjnffeadfaaGreatDoorKpMap
import Derived.Test.YthhadjnffeadfaaGreatDoorTpTop
import Derived.Test.YthhadjnffeadfaaGreatDoorTextWalks
import Derived.Test.YthhadjnffeadfaaGreatDoorLast
import Derived.Deep.MidRow
set_option linter.unusedSimpArgs false
set_option linter.unusedVariables false
namespace Go.Proofs.YthhadjnffeadfaaGreatDoor
open Go.RowKit Go.Maps

/-- A message's box. -/
def BxM (w : World) (g : Nat) (m : Ms) : Prop := w.heap[g]? = some (.cells #[.string ⟨m.1.toArray⟩, .string ⟨m.2.1.toArray⟩, .int .u8 m.2.2.1, .bool m.2.2.2] 32 (0, 0))
section
variable {w w' : World} {g : Nat} {m : Ms}
theorem BxM.lt (h : BxM w g m) : g < w.heap.size := (Array.getElem?_eq_some_iff.1 h).1
theorem BxM.below (h : BxM w g m) (hb : Below w.heap.size w w') : BxM w' g m := (hb.block g h.lt).trans h
theorem BxM.outs {G : Nat → Prop} (h : BxM w g m) (hU : Outs w w' G) (hg : ¬ G g) : BxM w' g m := (hU.block g h.lt hg).trans h
theorem BxM.at_ (h : BxM w g m) : MsAt w g 0 m := ⟨cell_of_row w g 0 _ _ _ h, cell_of_row w g 1 _ _ _ h, cell_of_row w g 2 _ _ _ h, cell_of_row w g 3 _ _ _ h⟩
theorem BxM.c0 (h : BxM w g m) : w.cell? ⟨g, 0, none⟩ = some (.string ⟨m.1.toArray⟩) := h.at_.1
theorem BxM.c1 (h : BxM w g m) : w.cell? ⟨g, 1, none⟩ = some (.string ⟨m.2.1.toArray⟩) := h.at_.2.1
theorem BxM.c2 (h : BxM w g m) : w.cell? ⟨g, 2, none⟩ = some (.int .u8 m.2.2.1) := h.at_.2.2.1
theorem BxM.c3 (h : BxM w g m) : w.cell? ⟨g, 3, none⟩ = some (.bool m.2.2.2) := h.at_.2.2.2
theorem BxM.fr (h : BxM w g m) (j : Nat) : w.frozen? ⟨g, j, none⟩ = false := by unfold World.frozen?; rw [show w.heap[g]? = _ from h]; simp
theorem BxM.new (w : World) (m : Ms) : BxM (w.alloc (.cells #[.string ⟨m.1.toArray⟩, .string ⟨m.2.1.toArray⟩, .int .u8 m.2.2.1, .bool m.2.2.2] 32)) w.heap.size m := heap_alloc_new w _
theorem BxM.set0 (h : BxM w g m) (s : List UInt8) : BxM (w.setCell ⟨g, 0, none⟩ (.string ⟨s.toArray⟩)) g (s, m.2) := heap_setCell_same w g 0 _ _ _ h
theorem BxM.set1 (h : BxM w g m) (s : List UInt8) : BxM (w.setCell ⟨g, 1, none⟩ (.string ⟨s.toArray⟩)) g (m.1, s, m.2.2) := heap_setCell_same w g 1 _ _ _ h
theorem BxM.set2 (h : BxM w g m) (q : Int) : BxM (w.setCell ⟨g, 2, none⟩ (.int .u8 q)) g (m.1, m.2.1, q, m.2.2.2) := heap_setCell_same w g 2 _ _ _ h
theorem BxM.set3 (h : BxM w g m) (b : Bool) : BxM (w.setCell ⟨g, 3, none⟩ (.bool b)) g (m.1, m.2.1, m.2.2.1, b) := heap_setCell_same w g 3 _ _ _ h
theorem BxM.load (h : BxM w g m) : (loadVar 32 ⟨g, 0, none⟩).run Tryz.prog w = .ok (.agg #[.string ⟨m.1.toArray⟩, .string ⟨m.2.1.toArray⟩, .int .u8 m.2.2.1, .bool m.2.2.2]) w := by
  have := run_loadVar_mid (P := Tryz.prog) w g 0 32 [.string ⟨m.1.toArray⟩, .string ⟨m.2.1.toArray⟩, .int .u8 m.2.2.1, .bool m.2.2.2] _ (World.rangeAt_of_block h 0 4) Tryz.underlying32 rfl (by kernel_rfl)
  exact this
/-- A function's result is a message; a message and another value. -/
theorem ret_ms {fn : Func} {R : Ending → World → Prop} {a : Act} (s : Tmp) (hres : fn.results = #[.cell s 32]) (hs : a.tmps.getD s undef = .pointer (some ⟨g, 0, none⟩)) (hB : BxM w g m) (hd : a.defers = [])
    (hR : R (.returned (.agg #[.string ⟨m.1.toArray⟩, .string ⟨m.2.1.toArray⟩, .int .u8 m.2.2.1, .bool m.2.2.2])) w) : bodyPost Tryz.prog fn R .ret a w := by
  refine bodyPost_ret (v := .agg #[.string ⟨m.1.toArray⟩, .string ⟨m.2.1.toArray⟩, .int .u8 m.2.2.1, .bool m.2.2.2]) ?_ hd hR
  have h := hB.load
  simp only [results, hres, hs, List.mapM_toArray, List.mapM_cons, List.mapM_nil, Sem.run_bind, asAddr, Sem.run_pure, Result.andThen_ok, h]
  simp [h]
theorem ret_ms2 {fn : Func} {R : Ending → World → Prop} {a : Act} {v : Value} (s u : Tmp) (hres : fn.results = #[.cell s 32, .tmp u]) (hs : a.tmps.getD s undef = .pointer (some ⟨g, 0, none⟩)) (hu : a.tmps.getD u undef = v) (hB : BxM w g m) (hd : a.defers = [])
    (hR : R (.returned (.tuple #[.agg #[.string ⟨m.1.toArray⟩, .string ⟨m.2.1.toArray⟩, .int .u8 m.2.2.1, .bool m.2.2.2], v])) w) : bodyPost Tryz.prog fn R .ret a w := by
  refine bodyPost_ret (v := .tuple #[.agg #[.string ⟨m.1.toArray⟩, .string ⟨m.2.1.toArray⟩, .int .u8 m.2.2.1, .bool m.2.2.2], v]) ?_ hd hR
  have h := hB.load
  simp only [results, hres, hs, hu, List.mapM_toArray, List.mapM_cons, List.mapM_nil, Sem.run_bind, asAddr, Sem.run_pure, Result.andThen_ok, h]
  simp [h]
theorem BxM.other (h : BxM w g m) {b i : Nat} {v : Value} (hne : g ≠ b) : BxM (w.setCell ⟨b, i, none⟩ v) g m := (heap_setCell_other w _ g v hne).trans h
end
section
variable {w w' : World} {t : Nat} {F : Nat → Prop} {L : List Ms}
set_option maxHeartbeats 1000000 in
theorem kMay (w : World) (m : Ms) (r : Bool) (hl : m.1.length ≤ 1000000000) (hr : mayB m = r) :
    Calls Tryz.prog 8 #[.agg #[.string ⟨m.1.toArray⟩, .string ⟨m.2.1.toArray⟩, .int .u8 m.2.2.1, .bool m.2.2.2]] w fun e w' => e = .returned (.bool r) ∧ Below w.heap.size w w' := by
  obtain ⟨s, p, q, b⟩ := m
  dsimp only at hl
  obtain ⟨W, hW⟩ : ∃ W, W = w.alloc (.cells #[.string ⟨s.toArray⟩, .string ⟨p.toArray⟩, .int .u8 q, .bool b] 32) := ⟨_, rfl⟩
  have hbW : Below w.heap.size w W := by rw [hW]; exact below_alloc (Below.refl _ _) _
  have hX : BxM W w.heap.size (s, p, q, b) := by rw [hW]; exact BxM.new w (s, p, q, b)
  have HX := Lib.hid hX
  have k1 := hX.c0
  unfold mayB at hr
  dsimp only at hr k1
  cases hn : namB s with
  | false =>
    rw [hn, Bool.false_and] at hr
    subst hr
    have HN := Lib.hid hn
    clear hn hX
    go_enter Tryz.func8, Tryz.ntmps8
    go_wp2_with fail
    rw [← hW]
    refine (tpName_eq s false _ hl HN.out).mono ?_
    rintro e w1 ⟨rfl, hb1⟩
    go_wp2_with fail
    go_ret
    exact ⟨rfl, hbW.trans (hb1.mono hbW.size)⟩
  | true =>
    rw [hn, Bool.true_and] at hr
    have HN := Lib.hid hn
    clear hn hX
    go_enter Tryz.func8, Tryz.ntmps8
    go_wp2_with fail
    rw [← hW]
    refine (tpName_eq s true _ hl HN.out).mono ?_
    rintro e w1 ⟨rfl, hb1⟩
    have k3 := (HX.out.below hb1).c2
    dsimp only at k3
    go_wp2_with fail
    go_ret
    exact ⟨by rw [← hr]; rfl, hbW.trans (hb1.mono hbW.size)⟩
set_option maxHeartbeats 1000000 in
theorem retained_any (w : World) (m : Ms) (h1 : m.1.length ≤ 1000000) (h2 : m.2.1.length ≤ 1000000) :
    Calls Tryz.prog 23 #[.agg #[.string ⟨m.1.toArray⟩, .string ⟨m.2.1.toArray⟩, .int .u8 m.2.2.1, .bool m.2.2.2]] w fun e w' => e = .returned (.agg #[.string ⟨m.1.toArray⟩, .string ⟨m.2.1.toArray⟩, .int .u8 m.2.2.1, .bool true]) ∧ Below w.heap.size w w' := by
  obtain ⟨s, p, q, b⟩ := m
  dsimp only at h1 h2 ⊢
  obtain ⟨W, hW⟩ : ∃ W, W = (w.alloc (.cells #[.string ⟨s.toArray⟩, .string ⟨p.toArray⟩, .int .u8 q, .bool b] 32)).alloc (.cells #[.string ⟨#[]⟩, .string ⟨#[]⟩, .int .u8 0, .bool false] 32) := ⟨_, rfl⟩
  have hbW : Below w.heap.size w W := by rw [hW]; exact below_alloc (below_alloc (Below.refl _ _) _) _
  have hX : BxM W w.heap.size (s, p, q, b) := by rw [hW]; exact (BxM.new w (s, p, q, b)).below (below_alloc (Below.refl _ _) _)
  have hZ : BxM W (w.heap.size + 1) ([], [], 0, false) := by rw [hW]; have := BxM.new (w.alloc (.cells #[.string ⟨s.toArray⟩, .string ⟨p.toArray⟩, .int .u8 q, .bool b] 32)) ([], [], 0, false); rwa [World.size_alloc] at this
  have HX := Lib.hid hX
  have HZ := Lib.hid hZ
  have k1 := hX.c0
  dsimp only at k1
  clear hX hZ
  go_enter Tryz.func23, Tryz.ntmps23
  go_wp2_with fail
  rw [← hW]
  refine (clone_any s _ (by omega)).mono ?_
  rintro e w1 ⟨rfl, hb1⟩
  have X1 := HX.out.below hb1
  have X2 := X1.set0 s
  have j1 := X1.c0
  have j2 := X1.fr 0
  have j3 := X2.c1
  have HX2 := Lib.hid X2
  have hne : w.heap.size + 1 ≠ w.heap.size := by omega
  have HZ2 : Hid (BxM (w1.setCell ⟨w.heap.size, 0, none⟩ (.string ⟨s.toArray⟩)) (w.heap.size + 1) ([], [], 0, false)) := (HZ.out.below hb1).other hne
  have hbw1 := hbW.trans (hb1.mono hbW.size)
  have hb2 : Below w.heap.size w (w1.setCell ⟨w.heap.size, 0, none⟩ (.string ⟨s.toArray⟩)) := hbw1.setCell (p := ⟨w.heap.size, 0, none⟩) (Nat.le_refl _) _
  have HB2 := Lib.hid hb2
  dsimp only at j1 j2 j3
  clear X1 X2 hb2 hbw1 hb1 k1
  go_wp2_with fail
  refine (clone_any p _ (by omega)).mono ?_
  rintro e w3 ⟨rfl, hb3⟩
  have X3 := HX2.out.below hb3
  have hbw3 := HB2.out.trans (hb3.mono HB2.out.size)
  have i1 := X3.c1
  have i2 := X3.fr 1
  have X4 := X3.set1 p
  have i3 := X4.c3
  have i4 := X4.fr 3
  have X5 := X4.set3 true
  have i5 := X5.c0
  have i6 := X5.c1
  have i7 := X5.c2
  have i8 := X5.c3
  have Z5 : BxM ((w3.setCell ⟨w.heap.size, 1, none⟩ (.string ⟨p.toArray⟩)).setCell ⟨w.heap.size, 3, none⟩ (.bool true)) (w.heap.size + 1) ([], [], 0, false) := ((HZ2.out.below hb3).other hne).other hne
  have z0 := Z5.c0
  have z1 := Z5.c1
  have z2 := Z5.c2
  have z3 := Z5.c3
  have zf := Z5.fr
  have HQ := Lib.hid Z5
  have HB5 : Hid (Below w.heap.size w ((w3.setCell ⟨w.heap.size, 1, none⟩ (.string ⟨p.toArray⟩)).setCell ⟨w.heap.size, 3, none⟩ (.bool true))) := (hbw3.setCell (p := ⟨w.heap.size, 1, none⟩) (Nat.le_refl _) _).setCell (p := ⟨w.heap.size, 3, none⟩) (Nat.le_refl _) _
  dsimp only at i1 i2 i3 i4 i5 i6 i7 i8 z0 z1 z2 z3
  clear X3 X4 X5 Z5 hb3 j1 j2 j3
  go_wp2_with fail
  refine ret_ms (m := (s, p, q, true)) 2 rfl rfl (((HQ.out.set0 s).set1 p).set2 q |>.set3 true) rfl ⟨rfl, ?_⟩
  exact ((((HB5.out.setCell (p := ⟨w.heap.size + 1, 0, none⟩) (by simp) _).setCell (p := ⟨w.heap.size + 1, 1, none⟩) (by simp) _).setCell (p := ⟨w.heap.size + 1, 2, none⟩) (by simp) _).setCell (p := ⟨w.heap.size + 1, 3, none⟩) (by simp) _)
end
end Go.Proofs.YthhadjnffeadfaaGreatDoor
