/-
  queue: the document's own answers: New, Push, Pop.
-/
import Derived.Test.YtihgikhnkkmhhaaQuAwake
set_option linter.unusedSimpArgs false
set_option linter.unusedVariables false
namespace Go.Proofs.Ytihgikhnkkmhhaa
open Go.RowKit

/-- The document's queue at g, in the blocks G. -/
def DQ (w : World) (g : Nat) (G : Nat → Prop) (M : Nat) (L : List Ms) : Prop :=
  ∃ v, w.heap[g]? = some (.cells #[v, .int .i64 (M : Nat)] 45 (0, 0)) ∧ w.ownsRow 0 28 4 v L.length (flatM L) ∧ v.ownBlock ≠ some g ∧ (L.length ≤ M ∧ M ≤ 1024) ∧ ∀ x, G x ↔ x = g ∨ v.ownBlock = some x
section
variable {w w' : World} {g M : Nat} {G : Nat → Prop} {L : List Ms}
theorem DQ.root (h : DQ w g G M L) : G g := by obtain ⟨v, _, _, _, _, hF⟩ := h; exact (hF g).2 (Or.inl rfl)
theorem DQ.lt (h : DQ w g G M L) (b : Nat) (hb : G b) : b < w.heap.size := by
  obtain ⟨v, h1, h2, _, _, hF⟩ := h
  rcases (hF b).1 hb with rfl | hb
  · exact (Array.getElem?_eq_some_iff.1 h1).1
  · exact (h2.lt b hb).2
theorem DQ.keep (h : DQ w g G M L) (hk : ∀ b, G b → w'.heap[b]? = w.heap[b]?) : DQ w' g G M L := by
  obtain ⟨v, h1, h2, h3, h4, hF⟩ := h
  exact ⟨v, (hk g ((hF g).2 (Or.inl rfl))).trans h1, vrow_keep h2 (fun b hb => hk b ((hF b).2 (Or.inr hb))), h3, h4, hF⟩
theorem DQ.below (h : DQ w g G M L) (hb : Below w.heap.size w w') : DQ w' g G M L := h.keep fun b hF => hb.block b (h.lt b hF)
theorem DQ.form (h : DQ w g G M L) : ∃ A c, w.cell? ⟨g, 0, none⟩ = some (.slice A L.length c) ∧ w.cell? ⟨g, 1, none⟩ = some (.int .i64 (M : Nat)) ∧ Msgs w A L.length L ∧ (A = none → c = 0) ∧ (∀ i, w.frozen? ⟨g, i, none⟩ = false) ∧ L.length ≤ c := by
  obtain ⟨v, h1, h2, _, _, _⟩ := h
  obtain ⟨A, c, rfl, hc, hM, hA, _⟩ := mrow_form h2
  exact ⟨A, c, cell_of_row w g 0 _ _ _ h1, cell_of_row w g 1 _ _ _ h1, hM, hA, fun i => by unfold World.frozen?; rw [h1]; simp, hc⟩
theorem DQ.le (h : DQ w g G M L) : L.length ≤ M ∧ M ≤ 1024 := by obtain ⟨_, _, _, _, h, _⟩ := h; exact h
/-- A queue that the document makes. -/
def ND (w : World) (M : Nat) (e : Ending) (w' : World) : Prop := ∃ g G, e = .returned (.pointer (some ⟨g, 0, none⟩)) ∧ DQ w' g G M [] ∧ Below w.heap.size w w' ∧ ∀ b, G b → w.heap.size ≤ b
theorem dNew (w : World) (M : Nat) (h1 : 1 ≤ M) (h2 : M ≤ 1024) : Calls Try.prog 19 #[.int .i64 (M : Nat)] w fun e w' => ND w M e w' := by
  have i1 : ¬ (M : Int) < 1 := by omega
  have i2 : ¬ (1024 : Int) < (M : Int) := by omega
  go_enter Try.func19, Try.ntmps19
  go_wp2_with fail
  go_ret
  exact ⟨w.heap.size, fun x => x = w.heap.size, rfl, ⟨.slice none 0 0, heap_alloc_new w _, World.ownsRow_nil _ _ _ _, by simp [Value.ownBlock], ⟨Nat.zero_le _, h2⟩, fun x => by simp [Value.ownBlock]⟩, below_alloc (Below.refl _ _) _, fun b e => by omega⟩
theorem dNewN (w : World) (n : Int) (h : n < 1 ∨ 1024 < n) : Calls Try.prog 19 #[.int .i64 n] w fun e w' => e = .returned (.pointer none) ∧ w = w' := by
  by_cases i1 : n < 1
  · go_enter Try.func19, Try.ntmps19
    go_wp2_with fail
    go_ret
    exact ⟨rfl, rfl⟩
  · have i2 : 1024 < n := by omega
    go_enter Try.func19, Try.ntmps19
    go_wp2_with fail
    go_ret
    exact ⟨rfl, rfl⟩
/-- What the document's Push, Pop leave. -/
def DD (w : World) (g : Nat) (G : Nat → Prop) (M : Nat) (L : List Ms) (v : Value) (e : Ending) (w' : World) : Prop :=
  ∃ G', e = .returned v ∧ DQ w' g G' M L ∧ Outs w w' G ∧ ∀ x, G' x → G x ∨ w.heap.size ≤ x
theorem DQ.stored {v0 : Value} {A : Option Addr} {n c : Nat} (h1 : w.heap[g]? = some (.cells #[v0, .int .i64 (M : Nat)] 45 (0, 0))) (h2 : w.ownsRow 0 28 4 (.slice A n c) n (flatM L)) (hne : (Value.slice A n c).ownBlock ≠ some g) (hM : L.length ≤ M ∧ M ≤ 1024) :
    DQ (w.setCell ⟨g, 0, none⟩ (.slice A n c)) g (fun x => x = g ∨ (Value.slice A n c).ownBlock = some x) M L := by
  have hN := mrow_len h2
  refine ⟨.slice A n c, heap_setCell_same w g 0 _ _ _ h1, ?_, hne, hM, fun x => Iff.rfl⟩
  rw [hN]
  exact vrow_keep h2 (fun b hb => heap_setCell_other w ⟨g, 0, none⟩ b _ (fun e => hne (by rw [hb, e])))
set_option maxHeartbeats 2000000 in
theorem dPush_no (h : DQ w g G M L) (hl : L.length = M) (m : Ms) :
    Calls Try.prog 20 #[.pointer (some ⟨g, 0, none⟩), .agg #[.string ⟨m.1.toArray⟩, .string ⟨m.2.1.toArray⟩, .int .u8 m.2.2.1, .bool m.2.2.2]] w fun e w' => DD w g G M L (.bool false) e w' := by
  obtain ⟨s, p, q, b⟩ := m
  dsimp only
  obtain ⟨W, hW⟩ : ∃ W, W = w.alloc (.cells #[.string ⟨s.toArray⟩, .string ⟨p.toArray⟩, .int .u8 q, .bool b] 28) := ⟨_, rfl⟩
  have hbW : Below w.heap.size w W := by rw [hW]; exact below_alloc (Below.refl _ _) _
  have HD := Lib.hid (h.below hbW)
  obtain ⟨A, c, c0, c1, _, _, _, _⟩ := HD.out.form
  have i1 : (M : Int) ≤ (L.length : Int) := by omega
  clear h
  go_enter Try.func20, Try.ntmps20
  go_wp2_with fail
  rw [← hW]
  clear hW
  go_quiet (fail)
  have hb9 : Below w.heap.size w (W.drewN nq) := below_drewN hbW nq
  have HD9 := Lib.hid (HD.out.below (below_drewN (Below.refl _ _) nq))
  generalize W.drewN nq = W9 at hb9 HD9 ⊢
  clear HD c0 c1
  go_wp2_with fail
  go_ret
  exact ⟨G, rfl, HD9.out, Outs.of_below hb9, fun x hx => Or.inl hx⟩
set_option maxHeartbeats 4000000 in
theorem dPush_yes (h : DQ w g G M L) (hl : L.length < M) (m : Ms) :
    Calls Try.prog 20 #[.pointer (some ⟨g, 0, none⟩), .agg #[.string ⟨m.1.toArray⟩, .string ⟨m.2.1.toArray⟩, .int .u8 m.2.2.1, .bool m.2.2.2]] w fun e w' => DD w g G M (L ++ [m]) (.bool true) e w' := by
  obtain ⟨s, p, q, b⟩ := m
  dsimp only
  obtain ⟨W, hW⟩ : ∃ W, W = w.alloc (.cells #[.string ⟨s.toArray⟩, .string ⟨p.toArray⟩, .int .u8 q, .bool b] 28) := ⟨_, rfl⟩
  have hbW : Below w.heap.size w W := by rw [hW]; exact below_alloc (Below.refl _ _) _
  have hX : BxM W w.heap.size (s, p, q, b) := by rw [hW]; exact BxM.new w (s, p, q, b)
  have HX := Lib.hid hX
  have HLT := Lib.hid h.lt
  have HM := Lib.hid h.le.2
  have HD := Lib.hid (h.below hbW)
  obtain ⟨A, c, c0, c1, _, _, _, _⟩ := HD.out.form
  have i1 : ¬ (M : Int) ≤ (L.length : Int) := by omega
  clear h hX
  go_enter Try.func20, Try.ntmps20
  go_wp2_with fail
  rw [← hW]
  clear hW
  go_quiet (fail)
  have hb9 : Below W.heap.size W (W.drewN nq) := below_drewN (Below.refl _ _) nq
  generalize W.drewN nq = W9 at hb9 ⊢
  have HB9 := Lib.hid (below_more hbW hb9)
  have X9 := HX.out.below hb9
  have hD9 := HD.out.below hb9
  clear c0 c1 HD hb9 hbW
  obtain ⟨v, k1, k2, k3, k4, kG⟩ := hD9
  obtain ⟨A, c, rfl, hc, hM, hA, hown⟩ := mrow_form k2
  have hM4 := k4
  obtain ⟨A2, c2, w2, hrun2, hown2, hgr2, hat2⟩ := m_append (N := 0) (L := []) (ty := 30) (World.ownsRow_nil W9 0 28 4) (Nat.zero_le _) A L.length c L hM hA (by omega)
  rw [Nat.zero_add] at hrun2 hown2 hat2
  rw [List.nil_append] at hown2
  have hb2 : Below W9.heap.size W9 w2 := (Below.refl _ _).grown hgr2 (Nat.le_refl _) (fun k hk => by simp [Value.ownBlock] at hk)
  have hs2 := hb2.size
  have X2 := X9.below hb2
  have x0 := X2.c0; have x1 := X2.c1; have x2 := X2.c2; have x3 := X2.c3
  dsimp only at x0 x1 x2 x3
  have c0 := cell_of_row W9 g 0 _ _ _ k1
  obtain ⟨A3, c3, w3, hrun3, hown3, hgr3, hat3⟩ := m_append (ty := 30) (hown2.alloc (.cells #[.string ⟨s.toArray⟩, .string ⟨p.toArray⟩, .int .u8 q, .bool b] 28)) (Nat.zero_le _) (some ⟨w2.heap.size, 0, none⟩) 1 1 [(s, p, q, b)] (msgs_new w2 (s, p, q, b) _) (fun e => by cases e) (by omega)
  have hgl : g < W9.heap.size := (Array.getElem?_eq_some_iff.1 k1).1
  have hb2g := hb2.block g hgl
  have hnew : ∀ b, (Value.slice A2 L.length c2).ownBlock = some b → W9.heap.size ≤ b := fun b hb => by
    rcases hat2 with h2 | h2
    · rw [h2] at hb; simp [Value.ownBlock] at hb
    · rw [hb] at h2; injection h2 with h2; omega
  have hnew3 : ∀ b, (Value.slice A3 (L.length + 1) c3).ownBlock = some b → W9.heap.size ≤ b := fun b hb => by
    rcases hat3 with h3 | h3
    · exact hnew b (h3 ▸ hb)
    · rw [hb] at h3; injection h3 with h3; simp at h3; omega
  have hb3 : Below W9.heap.size W9 w3 := (hb2.alloc hs2 (.cells #[.string ⟨s.toArray⟩, .string ⟨p.toArray⟩, .int .u8 q, .bool b] 28)).grown hgr3 (by simp; omega) (fun k hk => hnew k hk)
  have g3 := hb3.block g hgl
  have d0 := (World.cell?_of_block (a := ⟨g, 0, none⟩) g3).trans c0
  have f0 : w3.frozen? ⟨g, 0, none⟩ = false := by unfold World.frozen?; rw [show w3.heap[g]? = _ from g3.trans k1]; simp
  have HRun2 := Lib.hid hrun2
  have HRun3 := Lib.hid hrun3
  have HO3 := Lib.hid hown3
  have HN3 := Lib.hid hnew3
  have HB3 := Lib.hid (below_more HB9.out hb3)
  have HG3 := Lib.hid (g3.trans k1)
  have hGg := (kG g).2 (Or.inl rfl)
  have HGL := Lib.hid hgl
  have hsW := HB9.out.size
  clear hrun2 hrun3 hown3 hnew3 hb3 g3 hb2 hgr2 hgr3 hat2 hat3 hown2 X9 X2 k1 k2 k3 kG hown hM hb2g hnew HX
  go_wp2_with (at_builtin; first | (refine wpList_vapp rfl _ _ _ rfl rfl rfl HRun2.out ?_; clear HRun2) | (refine wpList_vapp rfl _ _ _ rfl rfl rfl HRun3.out ?_; clear HRun3))
  go_wp2_with fail
  go_ret
  refine ⟨_, rfl, DQ.stored HG3.out HO3.out (fun e => by have := HN3.out _ e; have := HGL.out; omega) ⟨by rw [List.length_append, List.length_singleton]; omega, HM.out⟩, (Outs.of_below HB3.out).setCell g 0 hGg _, fun x hx => ?_⟩
  rcases hx with rfl | hx
  · exact Or.inl hGg
  · exact Or.inr (by have := HN3.out x hx; omega)
set_option maxHeartbeats 2000000 in
theorem dPop_no (h : DQ w g G M []) : Calls Try.prog 21 #[.pointer (some ⟨g, 0, none⟩)] w fun e w' => DD w g G M [] (pkV []) e w' := by
  have HD := Lib.hid h
  obtain ⟨A, c, c0, _⟩ := h.form
  simp only [List.length_nil] at c0
  have hgl := World.block_lt_of_cell? _ _ c0
  dsimp only at hgl
  clear h
  go_enter Try.func21, Try.ntmps21
  go_wp2_with fail
  refine ret_ms2 (m := nilMs) 2 3 rfl rfl rfl (BxM.new w nilMs) rfl ⟨G, rfl, ?_, ?_, fun x hx => Or.inl hx⟩
  · exact HD.out.below (below_alloc (Below.refl _ _) _)
  · exact Outs.of_below (below_alloc (Below.refl _ _) _)
theorem outs_set4n {w0 w : World} {F : Nat → Prop} (h : Outs w0 w F) (a b c d : Value) : Outs w0 ((((w.setCell ⟨w0.heap.size, 0, none⟩ a).setCell ⟨w0.heap.size, 1, none⟩ b).setCell ⟨w0.heap.size, 2, none⟩ c).setCell ⟨w0.heap.size, 3, none⟩ d) F :=
  (outs_set4o h (G := fun x => F x ∨ x = w0.heap.size) (fun _ h => Or.inl h) (Or.inr rfl)).trans (Outs.refl _ F) (fun _ _ h => Or.inl h) |> fun k => ⟨k.os, k.tape, k.output, k.size, fun b hb hn => k.block b hb (fun h => h.elim hn (fun e => by omega))⟩
set_option maxHeartbeats 4000000 in
theorem dPop_yes {m : Ms} (h : DQ w g G M (m :: L)) : Calls Try.prog 21 #[.pointer (some ⟨g, 0, none⟩)] w fun e w' => DD w g G M L (pkV (m :: L)) e w' := by
  obtain ⟨s, p, q, b⟩ := m
  have hle := h.le
  have HD := Lib.hid h
  obtain ⟨A, c, c0, _, hM, _, _, hcl⟩ := h.form
  obtain ⟨N, hN⟩ : ∃ N, ((s, p, q, b) :: L).length = N := ⟨_, rfl⟩
  have hNL : N = L.length + 1 := by rw [← hN]; rfl
  rw [hN] at c0 hM hle hcl
  have hN0 : 0 < N := by omega
  have hN1 : ((N : Int) == 0) = false := by simp; omega
  have hN2 : ¬ N = 0 := by omega
  obtain ⟨b1, o1, x, rfl, hx, y0, y1, y2, y3⟩ := hM.at_ (k := 0) hN0
  obtain rfl : (s, p, q, b) = x := by simpa using hx
  rw [Nat.zero_mul, Nat.add_zero] at y0 y1 y2 y3
  dsimp only at y0 y1 y2 y3
  have hgl := World.block_lt_of_cell? _ _ c0
  have hbl := World.block_lt_of_cell? _ _ y0
  dsimp only at hgl hbl
  have HMs := Lib.hid hM
  have HN := Lib.hid hN
  obtain ⟨W, hW⟩ : ∃ W, W = (w.alloc (.cells #[.string ⟨#[]⟩, .string ⟨#[]⟩, .int .u8 0, .bool false] 28)).alloc (.cells #[.string ⟨s.toArray⟩, .string ⟨p.toArray⟩, .int .u8 q, .bool b] 28) := ⟨_, rfl⟩
  have hbW : Below w.heap.size w W := by rw [hW]; exact below_alloc (below_alloc (Below.refl _ _) _) _
  have hsW : W.heap.size = w.heap.size + 2 := by rw [hW]; simp
  have hX : BxM W w.heap.size nilMs := by rw [hW]; exact (BxM.new w nilMs).below (below_alloc (Below.refl _ _) _)
  have hY : BxM W (w.heap.size + 1) (s, p, q, b) := by rw [hW]; have := BxM.new (w.alloc (.cells #[.string ⟨#[]⟩, .string ⟨#[]⟩, .int .u8 0, .bool false] 28)) (s, p, q, b); rwa [World.size_alloc] at this
  obtain ⟨A2, n2, hrd, hMW, hA2⟩ : ∃ (A2 : Option Addr) (n2 : Nat), (if c = 1 then (A2 = some ⟨b1, o1, none⟩ ∧ n2 = 0) else (A2 = some ⟨b1, o1 + 4, none⟩ ∧ n2 = c - 1)) ∧ Msgs W A2 L.length L ∧ (A2 = none → n2 = 0) := by
    by_cases hc1 : c = 1
    · refine ⟨_, _, by rw [if_pos hc1]; exact ⟨rfl, rfl⟩, ⟨rfl, fun h => by omega⟩, fun e => by cases e⟩
    · refine ⟨_, _, by rw [if_neg hc1]; exact ⟨rfl, rfl⟩, ?_, fun e => by cases e⟩
      have := (HMs.out.dropAt 1 L.length (by omega) (by omega)).below hbW
      exact this
  obtain ⟨A4, c4, w4, hrun, hown, hgr, hat⟩ := m_append (N := 0) (L := []) (ty := 30) (World.ownsRow_nil W 0 28 4) (Nat.zero_le _) A2 L.length n2 L hMW hA2 (by omega)
  rw [Nat.zero_add] at hrun hown hat
  rw [List.nil_append] at hown
  have hb4 : Below W.heap.size W w4 := (Below.refl _ _).grown hgr (Nat.le_refl _) (fun k hk => by simp [Value.ownBlock] at hk)
  have hnew : ∀ b, (Value.slice A4 L.length c4).ownBlock = some b → W.heap.size ≤ b := fun b hb => by
    rcases hat with h2 | h2
    · rw [h2] at hb; simp [Value.ownBlock] at hb
    · rw [hb] at h2; injection h2 with h2; omega
  have X4 := hX.below hb4
  have Y4 := hY.below hb4
  have x0 := X4.c0; have x1 := X4.c1; have x2 := X4.c2; have x3 := X4.c3; have xf := X4.fr
  have z0 := Y4.c0; have z1 := Y4.c1; have z2 := Y4.c2; have z3 := Y4.c3
  unfold nilMs at x0 x1 x2 x3
  dsimp only at x0 x1 x2 x3 z0 z1 z2 z3
  have hb04 := below_more hbW hb4
  obtain ⟨v, k1, k2, k3, k4, kG⟩ := HD.out.below hb04
  have d0 := cell_of_row w4 g 0 _ _ _ k1
  have f0 : w4.frozen? ⟨g, 0, none⟩ = false := by unfold World.frozen?; rw [k1]; simp
  have hn1 : g ≠ w.heap.size := by omega
  have hn2 : g ≠ w.heap.size + 1 := by omega
  have hGg := (kG g).2 (Or.inl rfl)
  have HK1 := Lib.hid k1
  have HOwn := Lib.hid hown
  have HNew := Lib.hid hnew
  have HB := Lib.hid hb04
  have HX4 := Lib.hid X4
  have hL1024 : L.length ≤ M ∧ M ≤ 1024 := by omega
  rw [hW] at hrun
  by_cases hc1 : c = 1
  · rw [if_pos hc1] at hrd
    obtain ⟨rfl, rfl⟩ := hrd
    have HRun := Lib.hid hrun
    clear hrun X4 Y4 k1 k2 k3 kG hown hnew hb4 hb04 hgr hat hX hY hMW hA2 hW hbW HMs HN
    go_enter Try.func21, Try.ntmps21
    go_wp2_with (at_builtin; refine wpList_vapp rfl _ _ _ rfl rfl rfl HRun.out ?_; clear HRun)
    refine ret_ms2 (m := (s, p, q, b)) 2 3 rfl rfl rfl ((HX4.out.other (Ne.symm hn1)).set4 (s, p, q, b)) rfl ⟨_, rfl, (DQ.stored HK1.out HOwn.out (fun e => by have := HNew.out _ e; omega) hL1024).keep (fun x hx => ?_), outs_set4n ((Outs.of_below HB.out).setCell g 0 hGg _) _ _ _ _, fun x hx => ?_⟩
    · refine (outs_set4 _ w.heap.size _ _ _ _).block x ?_ (fun e => ?_)
      · have := HB.out.size
        rcases hx with rfl | hx
        · simp [World.setCell]; omega
        · have := (HOwn.out.lt x hx).2
          simpa [World.setCell] using this
      · rcases hx with hx | hx
        · exact hn1 (hx ▸ e)
        · have := HNew.out x hx
          have e2 : x = w.heap.size := e
          omega
    · rcases hx with rfl | hx
      · exact Or.inl hGg
      · exact Or.inr (by have := HNew.out x hx; omega)
  · rw [if_neg hc1] at hrd
    obtain ⟨rfl, rfl⟩ := hrd
    have HRun := Lib.hid hrun
    clear hrun X4 Y4 k1 k2 k3 kG hown hnew hb4 hb04 hgr hat hX hY hMW hA2 hW hbW HMs HN
    go_enter Try.func21, Try.ntmps21
    go_wp2_with (at_builtin; refine wpList_vapp rfl _ _ _ rfl rfl rfl HRun.out ?_; clear HRun)
    refine ret_ms2 (m := (s, p, q, b)) 2 3 rfl rfl rfl ((HX4.out.other (Ne.symm hn1)).set4 (s, p, q, b)) rfl ⟨_, rfl, (DQ.stored HK1.out HOwn.out (fun e => by have := HNew.out _ e; omega) hL1024).keep (fun x hx => ?_), outs_set4n ((Outs.of_below HB.out).setCell g 0 hGg _) _ _ _ _, fun x hx => ?_⟩
    · refine (outs_set4 _ w.heap.size _ _ _ _).block x ?_ (fun e => ?_)
      · have := HB.out.size
        rcases hx with rfl | hx
        · simp [World.setCell]; omega
        · have := (HOwn.out.lt x hx).2
          simpa [World.setCell] using this
      · rcases hx with hx | hx
        · exact hn1 (hx ▸ e)
        · have := HNew.out x hx
          have e2 : x = w.heap.size := e
          omega
    · rcases hx with rfl | hx
      · exact Or.inl hGg
      · exact Or.inr (by have := HNew.out x hx; omega)
theorem dPush_any (h : DQ w g G M L) (m : Ms) (r : Bool) (L' : List Ms) (hr : decide (L.length < M) = r) (hL : (if L.length < M then L ++ [m] else L) = L') :
    Calls Try.prog 20 #[.pointer (some ⟨g, 0, none⟩), .agg #[.string ⟨m.1.toArray⟩, .string ⟨m.2.1.toArray⟩, .int .u8 m.2.2.1, .bool m.2.2.2]] w fun e w' => DD w g G M L' (.bool r) e w' := by
  by_cases hl : L.length < M
  · rw [if_pos hl] at hL
    rw [decide_eq_true hl] at hr
    subst hL hr
    exact dPush_yes h hl m
  · rw [if_neg hl] at hL
    rw [decide_eq_false hl] at hr
    subst hL hr
    exact dPush_no h (Nat.le_antisymm h.le.1 (Nat.le_of_not_lt hl)) m
theorem dPop_any (h : DQ w g G M L) : Calls Try.prog 21 #[.pointer (some ⟨g, 0, none⟩)] w fun e w' => DD w g G M (L.drop 1) (pkV L) e w' := by
  cases L with
  | nil => exact dPop_no h
  | cons m L => exact dPop_yes h
end
end Go.Proofs.Ytihgikhnkkmhhaa
