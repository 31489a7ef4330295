/-
  queue's statements: a queue of the call's own, step by step; awake.
-/
import Derived.Test.YtihgikhnkkmhhaaQuHelp
set_option linter.unusedSimpArgs false
set_option linter.unusedVariables false
namespace Go.Proofs.Ytihgikhnkkmhhaa
open Go.RowKit

/-- What was there and is none of the queue's stays so. -/
structure Sv (w w' : World) (F F' : Nat → Prop) : Prop where
  size : w.heap.size ≤ w'.heap.size
  kept : ∀ b, b < w.heap.size → ¬ F b → w'.heap[b]? = w.heap[b]?
  out : ∀ b, b < w.heap.size → ¬ F b → ¬ F' b
/-- A queue of the call's own. -/
structure QX (w0 w : World) (t : Nat) (F : Nat → Prop) (M : Nat) (L : List Ms) : Prop where
  q : PQ w t F M L
  b : Below w0.heap.size w0 w
  f : ∀ b, F b → w0.heap.size ≤ b
/-- One call more. -/
def QS (w0 w : World) (t : Nat) (F : Nat → Prop) (M : Nat) (L : List Ms) (v : Value) (e : Ending) (w' : World) : Prop :=
  ∃ F', e = .returned v ∧ QX w0 w' t F' M L ∧ Sv w w' F F'
section
variable {w0 w w' w1 : World} {t M : Nat} {F F' F1 : Nat → Prop} {L L' : List Ms}
theorem Sv.below (h : Below w.heap.size w w') : Sv w w' F F := ⟨h.size, fun b hb _ => h.block b hb, fun _ _ h => h⟩
theorem Sv.outs (h : Outs w w' F) (hF : ∀ x, F' x → F x ∨ w.heap.size ≤ x) : Sv w w' F F' :=
  ⟨h.size, fun b hb hn => h.block b hb hn, fun b hb hn h2 => (hF b h2).elim hn (fun h3 => by omega)⟩
theorem Sv.trans (h : Sv w w1 F F1) (k : Sv w1 w' F1 F') : Sv w w' F F' :=
  ⟨Nat.le_trans h.size k.size, fun b hb hn => (k.kept b (Nat.lt_of_lt_of_le hb h.size) (h.out b hb hn)).trans (h.kept b hb hn), fun b hb hn => k.out b (Nat.lt_of_lt_of_le hb h.size) (h.out b hb hn)⟩
theorem Sv.box {g : Nat} {m : Ms} (h : Sv w w' F F') (hb : BxM w g m) (hn : ¬ F g) : BxM w' g m ∧ ¬ F' g := ⟨(h.kept g hb.lt hn).trans hb, h.out g hb.lt hn⟩
/-- A row of messages that is none of the queue's. -/
def MsK (w : World) (F : Nat → Prop) (A : Option Addr) (n : Nat) (L : List Ms) : Prop := Msgs w A n L ∧ ∀ b o, 0 < n → A = some ⟨b, o, none⟩ → ¬ F b
theorem MsK.below {A : Option Addr} {n : Nat} (h : MsK w F A n L) (hb : Below w.heap.size w w') : MsK w' F A n L := ⟨h.1.below hb, h.2⟩
theorem Sv.msgs {A : Option Addr} {n : Nat} (h : Sv w w' F F') (k : MsK w F A n L) : MsK w' F' A n L := by
  have hlt : ∀ b o, 0 < n → A = some ⟨b, o, none⟩ → b < w.heap.size := fun b o hn e => by
    obtain ⟨b1, o1, x, e1, _, hc⟩ := k.1.at_ hn
    rw [e] at e1; cases e1
    exact hc.lt
  exact ⟨⟨k.1.1, fun hn => by
    obtain ⟨b, off, e, hc⟩ := k.1.2 hn
    exact ⟨b, off, e, fun j x hx => (World.cell?_of_block (h.kept b (hlt b off hn e) (k.2 b off hn e))).trans (hc j x hx)⟩⟩, fun b o hn e => h.out b (hlt b o hn e) (k.2 b o hn e)⟩
theorem QX.below (h : QX w0 w t F M L) (hb : Below w.heap.size w w') : QX w0 w' t F M L := ⟨h.q.below hb, below_more h.b hb, h.f⟩
theorem QX.new (h : QX w0 w t F M L) : ¬ F w.heap.size := fun hf => by have := h.q.lt _ hf; omega
theorem QX.step (h : QX w0 w t F M L) {v : Value} {e : Ending} (k : PP w t F M L' v e w') : QS w0 w t F M L' v e w' := by
  obtain ⟨F', he, hP, hO, hF⟩ := k
  refine ⟨F', he, ⟨hP, h.b.trans (hO.below (B := w0.heap.size) (fun b _ hb => h.f b hb) h.b.size), fun b hb => ?_⟩, Sv.outs hO hF⟩
  rcases hF b hb with h2 | h2
  · exact h.f b h2
  · have := h.b.size; omega
theorem QX.same (h : QX w0 w t F M L) {v : Value} (hb : Below w.heap.size w w') : QS w0 w t F M L v (.returned v) w' := ⟨F, rfl, h.below hb, Sv.below hb⟩
theorem qPush_any (h : PQ w t F M L) (m : Ms) (r : Bool) (h1 : m.1.length ≤ 1000000) (h2 : m.2.1.length ≤ 1000000) (hr : decide (L.length < M) = r) (hL : (if L.length < M then L ++ [m] else L) = L') :
    Calls Try.prog 11 #[.pointer (some ⟨t, 0, none⟩), .agg #[.string ⟨m.1.toArray⟩, .string ⟨m.2.1.toArray⟩, .int .u8 m.2.2.1, .bool m.2.2.2]] w fun e w' => PP w t F M L' (.bool r) e w' := by
  by_cases hl : L.length < M
  · rw [if_pos hl] at hL
    rw [decide_eq_true hl] at hr
    subst hL hr
    exact qPush_yes h hl m h1 h2
  · rw [if_neg hl] at hL
    rw [decide_eq_false hl] at hr
    subst hL hr
    exact qPush_no h (Nat.le_antisymm h.le (Nat.le_of_not_lt hl)) m
theorem xPush (h : QX w0 w t F M L) (m : Ms) (r : Bool) (L' : List Ms) (h1 : m.1.length ≤ 1000000) (h2 : m.2.1.length ≤ 1000000) (hr : decide (L.length < M) = r) (hL : (if L.length < M then L ++ [m] else L) = L') :
    Calls Try.prog 11 #[.pointer (some ⟨t, 0, none⟩), .agg #[.string ⟨m.1.toArray⟩, .string ⟨m.2.1.toArray⟩, .int .u8 m.2.2.1, .bool m.2.2.2]] w fun e w' => QS w0 w t F M L' (.bool r) e w' :=
  (qPush_any h.q m r h1 h2 hr hL).mono fun _ _ k => h.step k
theorem xPop (h : QX w0 w t F M L) : Calls Try.prog 14 #[.pointer (some ⟨t, 0, none⟩)] w fun e w' => QS w0 w t F M (L.drop 1) (pkV L) e w' :=
  (qPop h.q).mono fun _ _ k => h.step k
theorem xPeek (h : QX w0 w t F M L) : Calls Try.prog 15 #[.pointer (some ⟨t, 0, none⟩)] w fun e w' => QS w0 w t F M L (pkV L) e w' :=
  (qPeek h.q).mono fun _ _ ⟨he, hb⟩ => he ▸ h.same hb
theorem xLen (h : QX w0 w t F M L) (n : Nat) (hn : L.length = n) : Calls Try.prog 10 #[.pointer (some ⟨t, 0, none⟩)] w fun e w' => QS w0 w t F M L (.int .i64 (n : Nat)) e w' :=
  hn ▸ (qLen h.q).mono fun _ _ ⟨he, hb⟩ => he ▸ h.same hb
theorem xRoom (h : QX w0 w t F M L) (n : Nat) (hn : M - L.length = n) : Calls Try.prog 9 #[.pointer (some ⟨t, 0, none⟩)] w fun e w' => QS w0 w t F M L (.int .i64 (n : Nat)) e w' :=
  hn ▸ (qRoom h.q).mono fun _ _ ⟨he, hb⟩ => he ▸ h.same hb
/-- All, of a queue of the call's own. -/
def QR (w0 w : World) (t : Nat) (F : Nat → Prop) (M : Nat) (L : List Ms) (e : Ending) (w' : World) : Prop :=
  ∃ v, e = .returned v ∧ w'.ownsRow w.heap.size 28 4 v L.length (flatM L) ∧ QX w0 w' t F M L ∧ Below w.heap.size w w'
theorem xAll (h : QX w0 w t F M L) : Calls Try.prog 13 #[.pointer (some ⟨t, 0, none⟩)] w fun e w' => QR w0 w t F M L e w' :=
  (qAll h.q).mono fun _ _ ⟨v, he, hr, hb⟩ => ⟨v, he, hr, h.below hb, hb⟩
theorem xClear (h : QX w0 w t F M L) : Calls Try.prog 16 #[.pointer (some ⟨t, 0, none⟩)] w fun e w' => ∃ v, QS w0 w t F M [] v e w' :=
  (qClear h.q).mono fun _ _ ⟨v, F', he, hP, hO, hF⟩ => ⟨v, h.step ⟨F', he, hP, hO, fun x hx => Or.inl (hF x hx)⟩⟩
/-- New, of the call's own. -/
def QN (w0 : World) (M : Nat) (e : Ending) (w' : World) : Prop := ∃ t F, e = .returned (.pointer (some ⟨t, 0, none⟩)) ∧ QX w0 w' t F M []
theorem xNew (hb : Below w0.heap.size w0 w) (M : Nat) (h1 : 1 ≤ M) (h2 : M ≤ 1024) : Calls Try.prog 8 #[.int .i64 (M : Nat)] w fun e w' => QN w0 M e w' :=
  (qNew w M h1 h2).mono fun _ _ ⟨t, F, he, hP, hb2, hF⟩ => ⟨t, F, he, hP, below_more hb hb2, fun b h => Nat.le_trans hb.size (hF b h)⟩
theorem QR.form {e : Ending} (h : QX w0 w t F M L) (k : QR w0 w t F M L e w') : ∃ A c, e = .returned (.slice A L.length c) ∧ MsK w' F A L.length L ∧ QX w0 w' t F M L ∧ Below w.heap.size w w' := by
  obtain ⟨v, rfl, hr, hq, hb⟩ := k
  have hlt := hr.lt
  obtain ⟨A, c, rfl, _, hM, _, hown⟩ := mrow_form hr
  refine ⟨A, c, rfl, ⟨hM, fun b o hn e hF => ?_⟩, hq, hb⟩
  have h1 := h.q.lt b hF
  obtain ⟨b1, o1, x, e1, _, _⟩ := hM.at_ hn
  rcases hr.2 with ⟨e2, _⟩ | ⟨g, _, _, e2, hg, _⟩
  · injection e2 with e3
    rw [e3] at e; cases e
  · injection e2 with e3
    rw [e3] at e; cases e
    omega
theorem msgs_new2 (w : World) (a b : Ms) (t : TypeId) : Msgs (w.alloc (.cells #[.string ⟨a.1.toArray⟩, .string ⟨a.2.1.toArray⟩, .int .u8 a.2.2.1, .bool a.2.2.2, .string ⟨b.1.toArray⟩, .string ⟨b.2.1.toArray⟩, .int .u8 b.2.2.1, .bool b.2.2.2] t)) (some ⟨w.heap.size, 0, none⟩) 2 [a, b] := by
  refine ⟨rfl, fun _ => ⟨_, _, rfl, fun j u hu => ?_⟩⟩
  rw [Nat.zero_add, cell_of_row _ w.heap.size j _ t (0, 0) (heap_alloc_new w _), ← hu, ← List.getElem?_toArray]
  rfl
end
def aM (s : List UInt8) : Ms := (s, [], 0, false)
set_option maxHeartbeats 4000000 in
set_option maxRecDepth 100000 in
theorem awake12_any (w : World) : Calls Try.prog 17 #[] w fun e w' => e = .returned (.bool true) ∧ Below w.heap.size w w' := by
  go_enter Try.func17, Try.ntmps17
  go_wp2_with fail
  refine (xNew (w0 := w) (Below.refl _ _) 2 (by omega) (by omega)).mono ?_
  rintro e w1 ⟨t, F1, rfl, hQ⟩
  go_wp2_with fail
  refine (message_eq [97] _).mono ?_
  rintro e w2 ⟨rfl, hb⟩
  replace hQ := hQ.below hb
  unfold msG
  dsimp only
  clear hb
  go_wp2_with fail
  refine (xPush hQ (aM [97]) true [aM [97]] (by decide) (by decide) rfl rfl).mono ?_
  rintro e w3 ⟨F3, rfl, hQ9, hS⟩
  clear hQ
  have hQ := hQ9
  clear hQ9 hS
  go_wp2_with fail
  refine (message_eq [98] _).mono ?_
  rintro e w4 ⟨rfl, hb⟩
  replace hQ := hQ.below hb
  unfold msG
  dsimp only
  clear hb
  go_wp2_with fail
  refine (xPush hQ (aM [98]) true [aM [97], aM [98]] (by decide) (by decide) rfl rfl).mono ?_
  rintro e w5 ⟨F5, rfl, hQ9, hS⟩
  clear hQ
  have hQ := hQ9
  clear hQ9 hS
  go_wp2_with fail
  refine (message_eq [99] _).mono ?_
  rintro e w6 ⟨rfl, hb⟩
  replace hQ := hQ.below hb
  unfold msG
  dsimp only
  clear hb
  go_wp2_with fail
  refine (xPush hQ (aM [99]) false [aM [97], aM [98]] (by decide) (by decide) rfl rfl).mono ?_
  rintro e w7 ⟨F7, rfl, hQ9, hS⟩
  clear hQ
  have hQ := hQ9
  clear hQ9 hS
  go_wp2_with fail
  refine (xLen hQ 2 rfl).mono ?_
  rintro e w8 ⟨F8, rfl, hQ9, hS⟩
  clear hQ
  have hQ := hQ9
  clear hQ9 hS
  go_wp2_with fail
  refine (xRoom hQ 0 rfl).mono ?_
  rintro e w9 ⟨F9, rfl, hQ9, hS⟩
  clear hQ
  have hQ := hQ9
  clear hQ9 hS
  go_wp2_with fail
  refine (xPeek hQ).mono ?_
  rintro e w10 ⟨F10, rfl, hQ9, hS⟩
  clear hQ
  have hQ := hQ9
  clear hQ9 hS
  rw [show pkV [aM [97], aM [98]] = .tuple #[.agg #[.string ⟨#[97]⟩, .string ⟨#[]⟩, .int .u8 0, .bool false], .bool true] from rfl]
  go_wp2_with fail
  obtain ⟨w10b, hw⟩ : ∃ x, x = w10.alloc (.cells #[.string ⟨#[97]⟩, .string ⟨#[]⟩, .int .u8 0, .bool false] 28) := ⟨_, rfl⟩
  have hb : Below w10.heap.size w10 w10b := by rw [hw]; exact below_alloc (Below.refl _ _) _
  have hX7 : BxM w10b w10.heap.size (([97], [], 0, false) : Ms) ∧ ¬ F10 w10.heap.size := ⟨by rw [hw]; exact BxM.new w10 ([97], [], 0, false), hQ.new⟩
  replace hQ := hQ.below hb
  rw [← hw]
  clear hb hw
  refine (xPop hQ).mono ?_
  rintro e w11 ⟨F11, rfl, hQ9, hS⟩
  replace hX7 := hS.box hX7.1 hX7.2
  clear hQ
  have hQ := hQ9
  clear hQ9 hS
  rw [show pkV [aM [97], aM [98]] = .tuple #[.agg #[.string ⟨#[97]⟩, .string ⟨#[]⟩, .int .u8 0, .bool false], .bool true] from rfl]
  go_wp2_with fail
  obtain ⟨w11b, hw⟩ : ∃ x, x = w11.alloc (.cells #[.string ⟨#[97]⟩, .string ⟨#[]⟩, .int .u8 0, .bool false] 28) := ⟨_, rfl⟩
  have hb : Below w11.heap.size w11 w11b := by rw [hw]; exact below_alloc (Below.refl _ _) _
  have hX9 : BxM w11b w11.heap.size (([97], [], 0, false) : Ms) ∧ ¬ F11 w11.heap.size := ⟨by rw [hw]; exact BxM.new w11 ([97], [], 0, false), hQ.new⟩
  replace hQ := hQ.below hb
  replace hX7 := And.intro (hX7.1.below hb) hX7.2
  rw [← hw]
  clear hb hw
  rw [show List.drop 1 [aM [97], aM [98]] = [aM [98]] from rfl] at hQ
  refine (message_eq [99] _).mono ?_
  rintro e w12 ⟨rfl, hb⟩
  replace hQ := hQ.below hb
  replace hX7 := And.intro (hX7.1.below hb) hX7.2
  replace hX9 := And.intro (hX9.1.below hb) hX9.2
  unfold msG
  dsimp only
  clear hb
  go_wp2_with fail
  refine (xPush hQ (aM [99]) true [aM [98], aM [99]] (by decide) (by decide) rfl rfl).mono ?_
  rintro e w13 ⟨F13, rfl, hQ9, hS⟩
  replace hX7 := hS.box hX7.1 hX7.2
  replace hX9 := hS.box hX9.1 hX9.2
  clear hQ
  have hQ := hQ9
  clear hQ9 hS
  go_wp2_with fail
  refine (xAll hQ).mono ?_
  rintro e w14 hR
  obtain ⟨A, c, rfl, hM, hQ9, hb⟩ := QR.form hQ hR
  replace hX7 := And.intro (hX7.1.below hb) hX7.2
  replace hX9 := And.intro (hX9.1.below hb) hX9.2
  clear hQ hR
  have hQ := hQ9
  clear hQ9 hb
  go_wp2_with fail
  refine (xClear hQ).mono ?_
  rintro e w15 ⟨v, F15, rfl, hQ9, hS⟩
  replace hX7 := hS.box hX7.1 hX7.2
  replace hX9 := hS.box hX9.1 hX9.2
  replace hM := hS.msgs hM
  clear hQ
  have hQ := hQ9
  clear hQ9 hS
  go_wp2_with fail
  refine (xPop hQ).mono ?_
  rintro e w16 ⟨F16, rfl, hQ9, hS⟩
  replace hX7 := hS.box hX7.1 hX7.2
  replace hX9 := hS.box hX9.1 hX9.2
  replace hM := hS.msgs hM
  clear hQ
  have hQ := hQ9
  clear hQ9 hS
  rw [show pkV [] = .tuple #[.agg #[.string ⟨#[]⟩, .string ⟨#[]⟩, .int .u8 0, .bool false], .bool false] from rfl]
  have k7 := hX7.1.c0
  have k9 := hX9.1.c0
  have l7 := hX7.1.lt
  have l9 := hX9.1.lt
  have n7 := Nat.ne_of_lt l7
  have n9 := Nat.ne_of_lt l9
  dsimp only at k7 k9
  clear hX7 hX9
  obtain ⟨W, hW⟩ : ∃ x, x = w16.alloc (.cells #[.string ⟨#[]⟩, .string ⟨#[]⟩, .int .u8 0, .bool false] 28) := ⟨_, rfl⟩
  have hb : Below w16.heap.size w16 W := by rw [hW]; exact below_alloc (Below.refl _ _) _
  have hbW := below_more hQ.b hb
  have hMW := hM.1.below hb
  have HM := Lib.hid hMW
  clear hM hQ hb hMW
  go_wp2_with fail
  rw [← hW]
  clear hW k7 k9 l7 l9 n7 n9
  refine (message_eq [98] _).mono ?_
  rintro e w17 ⟨rfl, hb⟩
  have HM2 := Lib.hid (HM.out.below hb)
  replace hbW := below_more hbW hb
  unfold msG
  dsimp only
  clear hb HM
  go_wp2_with fail
  refine (message_eq [99] _).mono ?_
  rintro e w18 ⟨rfl, hb⟩
  have HM3 := Lib.hid (HM2.out.below hb)
  replace hbW := below_more hbW hb
  unfold msG
  dsimp only
  clear hb HM2
  have hb : Below w18.heap.size w18 (w18.alloc (.cells #[.string ⟨#[98]⟩, .string ⟨#[]⟩, .int .u8 0, .bool false, .string ⟨#[99]⟩, .string ⟨#[]⟩, .int .u8 0, .bool false] 28)) := below_alloc (Below.refl _ _) _
  have HN := Lib.hid (msgs_new2 w18 (aM [98]) (aM [99]) 28)
  have HM4 := Lib.hid (HM3.out.below hb)
  replace hbW := below_more hbW hb
  clear hb HM3
  go_wp2_with fail
  refine (same12_eq A 2 c [aM [98], aM [99]] _ 2 2 [aM [98], aM [99]] true _ HM4.out HN.out (by omega) (by decide)).mono ?_
  rintro e w19 ⟨rfl, hb⟩
  replace hbW := below_more hbW hb
  clear hb HM4 HN
  go_wp2_with fail
  refine (qNewN w19 0 (by omega)).mono ?_
  rintro e w20 ⟨rfl, rfl⟩
  go_wp2_with fail
  refine (qNewN w19 1025 (by omega)).mono ?_
  rintro e w21 ⟨rfl, rfl⟩
  go_wp2_with fail
  go_ret
  exact ⟨rfl, hbW⟩
end Go.Proofs.Ytihgikhnkkmhhaa
