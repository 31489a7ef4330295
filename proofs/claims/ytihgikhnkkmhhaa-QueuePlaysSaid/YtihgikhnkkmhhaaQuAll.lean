/-
  queue: Pop, Clear, All; of no queue.
-/
import Derived.Test.YtihgikhnkkmhhaaQuPop
set_option linter.unusedSimpArgs false
set_option linter.unusedVariables false
namespace Go.Proofs.Ytihgikhnkkmhhaa
open Go.RowKit

@[go_sem] theorem msgs_nil (A : Option Addr) (n c : Nat) (W : World) : (binOp .eql 30 (.slice A n c) (.slice none 0 0)).run Try.prog W = .ok (.bool A.isNone) W := by
  have h := run_equal_slice_nil (P := Try.prog) W 30 28 A n c Try.underlying30
  simp [binOp, h]
/-- A copy of a row of messages. -/
def QCl (w : World) (L : List Ms) (e : Ending) (w' : World) : Prop :=
  ∃ v, e = .returned v ∧ w'.ownsRow w.heap.size 28 4 v L.length (flatM L) ∧ Below w.heap.size w w'
theorem mclone_eq {w : World} {A : Option Addr} {n c : Nat} {L : List Ms} (hV : Msgs w A n L) (hc : A = none → c = 0) (hn : n ≤ 100000) :
    Calls Try.prog 26 #[.slice A n c] w fun e w' => QCl w L e w' := by
  have hlen := hV.len
  cases A with
  | none =>
    have hn0 : n = 0 := by
      rcases Nat.eq_zero_or_pos n with h0 | h0
      · exact h0
      · obtain ⟨_, _, e, _⟩ := hV.2 h0
        cases e
    subst hn0
    obtain rfl := hc rfl
    obtain rfl : L = [] := List.eq_nil_of_length_eq_zero hlen
    clear hV hc
    go_enter Try.func26, Try.ntmps26
    go_wp2_with fail
    go_ret
    exact ⟨_, rfl, World.ownsRow_nil _ _ _ _, Below.refl _ _⟩
  | some ad =>
    have hrow0 : (w.alloc (.cells #[] 28)).ownsRow w.heap.size 28 4 (.slice (some ⟨w.heap.size, 0, none⟩) 0 0) 0 (flatM []) := World.ownsRow_lit w #[] 0 (Nat.le_refl _) (by unfold maxLen; omega) rfl
    have hbA : Below w.heap.size w (w.alloc (.cells #[] 28)) := below_alloc (Below.refl _ _) _
    obtain ⟨A', c', w4, hrun, hown4, hgr, _⟩ := m_append (ty := 30) hrow0 (by simp) (some ad) n c L (hV.below hbA) (fun e => by cases e) (by omega)
    rw [Nat.zero_add, List.nil_append] at hown4
    rw [Nat.zero_add] at hrun
    have HRun := Lib.hid hrun
    have hb4 : Below w.heap.size w w4 := hbA.grown hgr (by simp) (fun k hk => by
      have : w.heap.size = k := by simpa [Value.ownBlock] using hk
      omega)
    have HB := Lib.hid hb4
    have HO := Lib.hid hown4
    clear hV hc hrow0 hbA hrun hown4 hgr hb4
    go_enter Try.func26, Try.ntmps26
    go_wp2_with (at_builtin; refine wpList_vapp rfl _ _ _ rfl rfl rfl HRun.out ?_)
    go_wp2_with fail
    go_ret
    exact ⟨_, rfl, hlen ▸ HO.out, HB.out⟩
section
variable {w w' : World} {t M : Nat} {F : Nat → Prop} {D L : List Ms} {p : Option Addr}
theorem QCl.wider {w w1 : World} {e : Ending} (h : QCl w1 L e w') (hb : Below w.heap.size w w1) : QCl w L e w' := by
  obtain ⟨v, he, hr, hb2⟩ := h
  refine ⟨v, he, ⟨hr.1, ?_⟩, below_more hb hb2⟩
  have := hb.size
  rcases hr.2 with h3 | ⟨g, cap, cur, e, hg, r⟩
  · exact Or.inl h3
  · exact Or.inr ⟨g, cap, cur, e, Nat.le_trans this hg, r⟩
theorem qAll_raw (hw : Hid (Calls Try.prog 24 #[.pointer p] w fun e w' => WP w L e w')) (hl : L.length ≤ 100000) :
    Calls Try.prog 13 #[.pointer p] w fun e w' => QCl w L e w' := by
  go_enter Try.func13, Try.ntmps13
  go_wp2_with fail
  refine hw.out.mono ?_
  rintro e w1 ⟨A, c, rfl, hV, hA, hb⟩
  have H := Lib.hid (mclone_eq hV hA (by omega))
  have HB := Lib.hid hb
  clear hV hA hb
  go_wp2_with fail
  refine H.out.mono ?_
  rintro e w2 hC
  have hC2 := hC.wider HB.out
  obtain ⟨v, rfl, r1, r2⟩ := hC2
  have HR := Lib.hid r1
  have HB2 := Lib.hid r2
  clear hC r1 r2
  go_wp2_with fail
  go_ret
  exact ⟨_, rfl, HR.out, HB2.out⟩
theorem qAll (h : PQ w t F M L) : Calls Try.prog 13 #[.pointer (some ⟨t, 0, none⟩)] w fun e w' => QCl w L e w' := by
  obtain ⟨D, h, h1, h2⟩ := h.raw
  exact qAll_raw (qWait h (by omega)) (by omega)
theorem qAllN (w : World) : Calls Try.prog 13 #[.pointer none] w fun e w' => QCl w [] e w' := qAll_raw (qWaitN w) (by simp)
theorem outs_set4o {w0 w : World} {F G : Nat → Prop} (h : Outs w0 w F) {g : Nat} {a b c d : Value} (hFG : ∀ x, F x → G x) (hg : G g) : Outs w0 ((((w.setCell ⟨g, 0, none⟩ a).setCell ⟨g, 1, none⟩ b).setCell ⟨g, 2, none⟩ c).setCell ⟨g, 3, none⟩ d) G :=
  (((((Outs.refl w0 G).trans h (fun x _ hx => hFG x hx)).setCell g 0 hg _).setCell g 1 hg _).setCell g 2 hg _).setCell g 3 hg _
set_option maxHeartbeats 2000000 in
theorem qPop (h : PQ w t F M L) : Calls Try.prog 14 #[.pointer (some ⟨t, 0, none⟩)] w fun e w' => PP w t F M (L.drop 1) (pkV L) e w' := by
  obtain ⟨W, hW⟩ : ∃ W, W = w.alloc (.cells #[.string ⟨#[]⟩, .string ⟨#[]⟩, .int .u8 0, .bool false] 28) := ⟨_, rfl⟩
  have hbW : Below w.heap.size w W := by rw [hW]; exact below_alloc (Below.refl _ _) _
  have hX : BxM W w.heap.size nilMs := by rw [hW]; exact BxM.new w nilMs
  have HX := Lib.hid hX
  have HP := Lib.hid h
  have H := Lib.hid (qPeek (h.below hbW))
  clear hX h
  go_enter Try.func14, Try.ntmps14
  go_wp2_with fail
  rw [← hW]
  refine H.out.mono ?_
  rintro e w1 ⟨rfl, hb1⟩
  have X1 := HX.out.below hb1
  have HX1 := Lib.hid X1
  have HB1 := Lib.hid (hbW.trans (hb1.mono hbW.size))
  have hsz := X1.lt
  have x0 := X1.c0; have x1 := X1.c1; have x2 := X1.c2; have x3 := X1.c3; have xf := X1.fr
  have hne := Nat.ne_of_lt hsz
  unfold nilMs at x0 x1 x2 x3
  dsimp only at x0 x1 x2 x3
  clear X1 hb1
  cases L with
  | nil =>
    unfold pkV msG nilMs
    dsimp only
    go_wp2_with fail
    refine ret_ms2 (m := nilMs) 2 3 rfl rfl rfl ((HX1.out.set4 nilMs).below (below_alloc (Below.refl _ _) _)) rfl ⟨F, rfl, ?_, ?_, fun x hx => Or.inl hx⟩
    · exact HP.out.below ((below_set4 HB1.out (Nat.le_refl _) _ _ _ _).alloc (by have := HB1.out.size; simpa [World.setCell] using this) _)
    · exact Outs.of_below ((below_set4 HB1.out (Nat.le_refl _) _ _ _ _).alloc (by have := HB1.out.size; simpa [World.setCell] using this) _)
  | cons m L =>
    obtain ⟨s, p1, q, b⟩ := m
    unfold pkV msG
    dsimp only
    go_wp2_with fail
    obtain ⟨W2, hW2⟩ : ∃ W2, W2 = w1.alloc (.cells #[.string ⟨s.toArray⟩, .string ⟨p1.toArray⟩, .int .u8 q, .bool b] 28) := ⟨_, rfl⟩
    have hbm : Below w1.heap.size w1 W2 := by rw [hW2]; exact below_alloc (Below.refl _ _) _
    have hb2 : Below w.heap.size w W2 := below_more HB1.out hbm
    have Y2 : BxM W2 w1.heap.size (s, p1, q, b) := by rw [hW2]; exact BxM.new w1 (s, p1, q, b)
    have X2 := HX1.out.below hbm
    have hlw := HP.out.lt
    have HY2 := Lib.hid Y2
    have HX2 := Lib.hid X2
    have HB2 := Lib.hid hb2
    have HLW := Lib.hid hlw
    rw [← hW2]
    clear hW2 Y2 X2 hbm hb2 hlw x0 x1 x2 x3 xf
    refine (qDrop (HP.out.below HB2.out)).mono ?_
    rintro e w3 ⟨⟨v, rfl⟩, hP3, hO3⟩
    have X3 := HX2.out.outs hO3 (fun hF => by have := HLW.out _ hF; omega)
    have Y3 := HY2.out.outs hO3 (fun hF => by have := HLW.out _ hF; omega)
    have x0 := X3.c0; have x1 := X3.c1; have x2 := X3.c2; have x3 := X3.c3; have xf := X3.fr
    have y0 := Y3.c0; have y1 := Y3.c1; have y2 := Y3.c2; have y3 := Y3.c3
    unfold nilMs at x0 x1 x2 x3
    dsimp only at x0 x1 x2 x3 y0 y1 y2 y3
    have HX3 := Lib.hid X3
    have HP3 := Lib.hid hP3
    have HO3 := Lib.hid hO3
    clear X3 Y3 hP3 hO3
    go_wp2_with fail
    have hOut := outs_set4o (HO3.out) (a := .string ⟨s.toArray⟩) (b := .string ⟨p1.toArray⟩) (c := .int .u8 q) (d := .bool b) (g := w.heap.size) (G := fun x => F x ∨ x = w.heap.size) (fun _ h => Or.inl h) (Or.inr rfl)
    refine ret_ms2 (m := (s, p1, q, b)) 2 3 rfl rfl rfl (HX3.out.set4 (s, p1, q, b)) rfl ⟨F, rfl, ?_, ?_, fun x hx => Or.inl hx⟩
    · exact HP3.out.outs (outs_set4 w3 w.heap.size _ _ _ _) (fun x hF e => by have := HLW.out x hF; omega)
    · exact ((Outs.of_below HB2.out).trans hOut (fun x hx h => h.elim id (fun e => absurd e (Nat.ne_of_lt hx))))
/-- What Clear leaves. -/
def KQ (w : World) (t : Nat) (F : Nat → Prop) (M : Nat) (e : Ending) (w' : World) : Prop := ∃ v F', e = .returned v ∧ PQ w' t F' M [] ∧ Outs w w' F ∧ ∀ x, F' x → F x
theorem qClear (h : PQ w t F M L) : Calls Try.prog 16 #[.pointer (some ⟨t, 0, none⟩)] w fun e w' => KQ w t F M e w' := by
  have hM := h.most
  have HT := Lib.hid h.root
  obtain ⟨D, ⟨v, k1, _⟩, _⟩ := h
  have c1 := cell_of_row w t 1 _ _ _ k1
  have c2 := cell_of_row w t 2 _ _ _ k1
  have f1 : ∀ i, w.frozen? ⟨t, i, none⟩ = false := fun i => by unfold World.frozen?; rw [k1]; simp
  have HK1 := Lib.hid k1
  clear k1
  go_enter Try.func16, Try.ntmps16
  go_wp2_with fail
  go_end0
  refine ⟨_, fun x => x = t, rfl, ⟨[], ⟨.slice none 0 0, ?_, World.ownsRow_nil _ _ _ _, by simp [Value.ownBlock], fun x => by simp [Value.ownBlock]⟩, Or.inl rfl, Nat.zero_le _, hM⟩, ((Outs.refl w F).setCell t 1 HT.out _).setCell t 2 HT.out _, fun x e => e ▸ HT.out⟩
  exact heap_setCell_same _ t 2 _ _ _ (heap_setCell_same w t 1 _ _ _ HK1.out)
theorem qClearN (w : World) : Calls Try.prog 16 #[.pointer none] w fun e w' => (∃ v, e = .returned v) ∧ w = w' := by
  go_enter Try.func16, Try.ntmps16
  go_wp2_with fail
  go_end0
  exact ⟨⟨_, rfl⟩, rfl⟩
theorem pop_none (p : Option Addr) (hpk : Hid (∀ W, Below w.heap.size w W → Calls Try.prog 15 #[.pointer p] W fun e w' => e = .returned (pkV []) ∧ Below W.heap.size W w')) : Calls Try.prog 14 #[.pointer p] w fun e w' => e = .returned (pkV []) ∧ Below w.heap.size w w' := by
  obtain ⟨W, hW⟩ : ∃ W, W = w.alloc (.cells #[.string ⟨#[]⟩, .string ⟨#[]⟩, .int .u8 0, .bool false] 28) := ⟨_, rfl⟩
  have hbW : Below w.heap.size w W := by rw [hW]; exact below_alloc (Below.refl _ _) _
  have hX : BxM W w.heap.size nilMs := by rw [hW]; exact BxM.new w nilMs
  have HX := Lib.hid hX
  have H := Lib.hid (hpk.out W hbW)
  clear hpk
  clear hX
  go_enter Try.func14, Try.ntmps14
  go_wp2_with fail
  rw [← hW]
  refine H.out.mono ?_
  rintro e w1 ⟨rfl, hb1⟩
  have X1 := HX.out.below hb1
  have HX1 := Lib.hid X1
  have HB1 := Lib.hid (hbW.trans (hb1.mono hbW.size))
  have hsz := X1.lt
  have x0 := X1.c0; have x1 := X1.c1; have x2 := X1.c2; have x3 := X1.c3; have xf := X1.fr
  have hne := Nat.ne_of_lt hsz
  unfold nilMs at x0 x1 x2 x3
  dsimp only at x0 x1 x2 x3
  clear X1 hb1
  unfold pkV msG nilMs
  dsimp only
  go_wp2_with fail
  refine ret_ms2 (m := nilMs) 2 3 rfl rfl rfl ((HX1.out.set4 nilMs).below (below_alloc (Below.refl _ _) _)) rfl ⟨rfl, ?_⟩
  exact (below_set4 HB1.out (Nat.le_refl _) _ _ _ _).alloc (by have := HB1.out.size; simpa [World.setCell] using this) _
theorem qPopN (w : World) : Calls Try.prog 14 #[.pointer none] w fun e w' => e = .returned (pkV []) ∧ Below w.heap.size w w' := pop_none none (fun W _ => qPeekN W)
theorem qPop0 (h : PQ w t F M []) : Calls Try.prog 14 #[.pointer (some ⟨t, 0, none⟩)] w fun e w' => e = .returned (pkV []) ∧ Below w.heap.size w w' := pop_none _ (fun _ hW => qPeek (h.below hW))
theorem qPushN (w : World) (m : Ms) : Calls Try.prog 11 #[.pointer none, .agg #[.string ⟨m.1.toArray⟩, .string ⟨m.2.1.toArray⟩, .int .u8 m.2.2.1, .bool m.2.2.2]] w fun e w' => e = .returned (.bool false) ∧ Below w.heap.size w w' := by
  obtain ⟨s, p, q, b⟩ := m
  dsimp only
  obtain ⟨W, hW⟩ : ∃ W, W = w.alloc (.cells #[.string ⟨s.toArray⟩, .string ⟨p.toArray⟩, .int .u8 q, .bool b] 28) := ⟨_, rfl⟩
  have hbW : Below w.heap.size w W := by rw [hW]; exact below_alloc (Below.refl _ _) _
  have H := Lib.hid (qRoomN W)
  go_enter Try.func11, Try.ntmps11
  go_wp2_with fail
  rw [← hW]
  refine H.out.mono ?_
  rintro e w1 ⟨rfl, hb1⟩
  go_wp2_with fail
  go_ret
  exact ⟨rfl, hbW.trans (hb1.mono hbW.size)⟩
/-- No queue; one that New has not made, at z. -/
def ZX (w : World) (z : Nat) (p : Option Addr) : Prop := p = none ∨ p = some ⟨z, 0, none⟩ ∧ ∃ F, PQ w z F 0 [] ∧ ∀ b, F b → b = z
section
variable {z : Nat}
theorem ZX.below (h : ZX w z p) (hb : Below w.heap.size w w') : ZX w' z p := by
  rcases h with h | ⟨h, F, hP, hF⟩
  · exact Or.inl h
  · exact Or.inr ⟨h, F, hP.below hb, hF⟩
theorem qzPeek (h : ZX w z p) : Calls Try.prog 15 #[.pointer p] w fun e w' => e = .returned (pkV []) ∧ Below w.heap.size w w' := by
  rcases h with rfl | ⟨rfl, F, hP, hF⟩
  · exact qPeekN w
  · exact qPeek hP
theorem qzPop (h : ZX w z p) : Calls Try.prog 14 #[.pointer p] w fun e w' => e = .returned (pkV []) ∧ Below w.heap.size w w' := by
  rcases h with rfl | ⟨rfl, F, hP, hF⟩
  · exact qPopN w
  · exact qPop0 hP
theorem qzPush (h : ZX w z p) (m : Ms) : Calls Try.prog 11 #[.pointer p, .agg #[.string ⟨m.1.toArray⟩, .string ⟨m.2.1.toArray⟩, .int .u8 m.2.2.1, .bool m.2.2.2]] w fun e w' => e = .returned (.bool false) ∧ Below w.heap.size w w' := by
  rcases h with rfl | ⟨rfl, F, hP, hF⟩
  · exact qPushN w m
  · exact qPush_full hP rfl m
theorem qzLen (h : ZX w z p) : Calls Try.prog 10 #[.pointer p] w fun e w' => NP w 0 e w' := by
  rcases h with rfl | ⟨rfl, F, hP, hF⟩
  · exact qLenN w
  · exact qLen hP
theorem qzRoom (h : ZX w z p) : Calls Try.prog 9 #[.pointer p] w fun e w' => NP w 0 e w' := by
  rcases h with rfl | ⟨rfl, F, hP, hF⟩
  · exact qRoomN w
  · exact qRoom hP
theorem qzAll (h : ZX w z p) : Calls Try.prog 13 #[.pointer p] w fun e w' => QCl w [] e w' := by
  rcases h with rfl | ⟨rfl, F, hP, hF⟩
  · exact qAllN w
  · exact qAll hP
theorem qzClear (h : ZX w z p) : Calls Try.prog 16 #[.pointer p] w fun e w' => (∃ v, e = .returned v) ∧ ZX w' z p ∧ Outs w w' (fun b => b = z) := by
  rcases h with rfl | ⟨rfl, F, hP, hF⟩
  · exact (qClearN w).mono fun _ _ ⟨he, hw⟩ => ⟨he, Or.inl rfl, hw ▸ Outs.refl w _⟩
  · exact (qClear hP).mono fun _ _ ⟨v, F', he, hP', hO, hF'⟩ => ⟨⟨v, he⟩, Or.inr ⟨rfl, F', hP', fun b hb => hF b (hF' b hb)⟩, (Outs.refl w _).trans hO (fun b _ hb => hF b hb)⟩
end
end
end Go.Proofs.Ytihgikhnkkmhhaa
