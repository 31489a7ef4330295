/-
  trie: what the statements' walks lean on: the program's trie, whatever it is in memory.
-/
import Derived.Test.YtipdmfnkkkdlbaaGreatDoorTgAll
import Derived.Test.YtipdmfnkkkdlbaaGreatDoorTgMatch
import Derived.Test.YtipdmfnkkkdlbaaGreatDoorTgRem
import Derived.Test.YtipdmfnkkkdlbaaGreatDoorTrNodes
import Derived.Test.YtipdmfnkkkdlbaaGreatDoorTrAdd3
import Derived.Test.YtipdmfnkkkdlbaaGreatDoorTrRem
import Derived.Test.YtipdmfnkkkdlbaaGreatDoorTrHelp
set_option linter.unusedSimpArgs false
set_option linter.unusedVariables false
namespace Go.Proofs.YtipdmfnkkkdlbaaGreatDoor
open Go.RowKit

/-- What the library's callees ask of the world. -/
def GT (w : World) : Prop := Glo w
def GB (B : Nat) : Prop := 0 < B
theorem GT.below {w w' : World} (h : GT w) (hb : Below w.heap.size w w') : GT w' := Glo.below h hb
theorem GT.gb {w : World} (h : GT w) : GB w.heap.size := by
  obtain ⟨m, hm⟩ := h
  exact World.block_lt_of_cell? _ _ hm
theorem GT.step {w w' : World} {B : Nat} (h : GT w) (hB : GB B) (hb : Below B w w') : GT w' := by
  obtain ⟨m, hm⟩ := h
  exact ⟨m, (hb.cell (show 0 < B from hB)).trans hm⟩
/-- The program's trie at t: its blocks are F, its hints L. -/
def PT (w : World) (t : Nat) (F : Nat → Prop) (L : List Hn) : Prop := ∃ G ps, PTG w t G ps L ∧ ∀ b, F b ↔ G.F b
/-- Few enough hints, small enough, in order. -/
def HsOk (m : Nat) (L : List Hn) : Prop := Srt ahB L ∧ L.length ≤ m ∧ ∀ h ∈ L, h.1.length ≤ 300 ∧ h.2.length ≤ 300
section
variable {w w' : World} {t : Nat} {F : Nat → Prop} {L : List Hn}
theorem PT.lt (h : PT w t F L) : ∀ b, F b → b < w.heap.size := by
  obtain ⟨G, ps, h1, h2⟩ := h
  exact fun b hb => h1.1.lt b ((h2 b).1 hb)
theorem PT.keep (h : PT w t F L) (hs : w.heap.size ≤ w'.heap.size) (hk : ∀ b, F b → w'.heap[b]? = w.heap[b]?) : PT w' t F L := by
  obtain ⟨G, ps, h1, h2⟩ := h
  exact ⟨G, ps, h1.keep fun b hb => hk b ((h2 b).2 hb), h2⟩
theorem PT.below (h : PT w t F L) (hb : Below w.heap.size w w') : PT w' t F L := h.keep hb.size (fun b hf => hb.block b (h.lt b hf))
/-- What Add, Remove leave. -/
def TP (w : World) (F : Nat → Prop) (t : Nat) (M : List Hn) (r : Bool) (e : Ending) (w' : World) : Prop :=
  ∃ F', e = .returned (.bool r) ∧ PT w' t F' M ∧ Outs w w' F ∧ ∀ b, F' b → F b ∨ w.heap.size ≤ b
theorem GP.tp {G : TG} {M : List Hn} {r : Bool} {e : Ending} (h : GP w t G M r e w') (hF : ∀ b, F b ↔ G.F b) : TP w F t M r e w' := by
  obtain ⟨G', ps', he, h1, h2, h3⟩ := h
  exact ⟨G'.F, he, ⟨G', ps', h1, fun b => Iff.rfl⟩, h2.mono (fun b _ hb => (hF b).2 hb), fun b hb => (h3 b hb).imp (hF b).2 id⟩
/-- What New tells. -/
def TN (w : World) (e : Ending) (w' : World) : Prop := ∃ t F, e = .returned (.pointer (some ⟨t, 0, none⟩)) ∧ PT w' t F [] ∧ Below w.heap.size w w' ∧ ∀ b, F b → w.heap.size ≤ b
theorem tNew (w : World) (hG : GT w) : Calls Tryz.prog 11 #[] w fun e w' => TN w e w' := by
  refine (tNew_eq w).mono ?_
  rintro e w' ⟨rfl, rfl⟩
  refine ⟨w.heap.size, (newG w.heap.size).F, rfl, ⟨newG w.heap.size, [], ⟨new_tr w, ⟨List.nodup_nil, fun p => ?_⟩, fun p c => ?_, fun p hp => (by cases hp), fun x hx => (by cases hx)⟩, fun b => Iff.rfl⟩, below_alloc (Below.refl _ _) _, fun b hb => ?_⟩
  · constructor
    · intro h; cases h
    · rintro ⟨h1, h2⟩
      exact absurd (by simp [newG, h1]) h2
  · constructor
    · intro h; exact h.elim
    · rintro ⟨x, hx, _⟩; cases hx
  · obtain ⟨k, p, hb⟩ := hb
    simp [newG] at hb
    omega
theorem tAdd (f c0 : List UInt8) (M : List Hn) (r : Bool) (hG : GT w) (hT : PT w t F L) (hk : HsOk 100 L) (hf : f.length ≤ 300) (hc : c0.length ≤ 300) (hM : addL L (f, c0) = M) (hr : addB L (f, c0) = r) :
    Calls Tryz.prog 20 #[.pointer (some ⟨t, 0, none⟩), .string ⟨f.toArray⟩, .string ⟨c0.toArray⟩] w fun e w' => TP w F t M r e w' := by
  obtain ⟨G, ps, h1, h2⟩ := hT
  exact (gAdd_any hG h1 hk.2.1 (fun x hx => (hk.2.2 x hx).1) f c0 M r hf hc hM hr).mono fun e w' h => h.tp h2
theorem tRem (f c0 : List UInt8) (M : List Hn) (r : Bool) (hG : GT w) (hT : PT w t F L) (hk : HsOk 100 L) (hf : f.length ≤ 300) (hc : c0.length ≤ 300) (hM : remL L (f, c0) = M) (hr : remB L (f, c0) = r) :
    Calls Tryz.prog 21 #[.pointer (some ⟨t, 0, none⟩), .string ⟨f.toArray⟩, .string ⟨c0.toArray⟩] w fun e w' => TP w F t M r e w' := by
  obtain ⟨G, ps, h1, h2⟩ := hT
  exact (gRem_any hG h1 hk.1 hk.2.1 (fun x hx => (hk.2.2 x hx).1) f c0 M r hf hc hM hr).mono fun e w' h => h.tp h2
theorem tMatch (nm : List UInt8) (M : List (List UInt8)) (hG : GT w) (hT : PT w t F L) (hk : HsOk 100 L) (hn : nm.length ≤ 300) (hM : matL L nm = M) :
    Calls Tryz.prog 19 #[.pointer (some ⟨t, 0, none⟩), .string ⟨nm.toArray⟩] w fun e w' => SVP w M e w' := by
  obtain ⟨G, ps, h1, h2⟩ := hT
  exact gMatch_any hG h1 hk.2.1 nm M hn hM
theorem tOf (c0 : List UInt8) (M : List (List UInt8)) (hG : GT w) (hT : PT w t F L) (hk : HsOk 100 L) (hc : c0.length ≤ 300) (hM : ofL L c0 = M) :
    Calls Tryz.prog 15 #[.pointer (some ⟨t, 0, none⟩), .string ⟨c0.toArray⟩] w fun e w' => OSP w M e w' := by
  obtain ⟨G, ps, h1, h2⟩ := hT
  exact gOf_any h1 hk.1 hk.2.1 (fun x hx => (hk.2.2 x hx).1) c0 M hc hM
theorem tAll (hG : GT w) (hT : PT w t F L) (hk : HsOk 100 L) :
    Calls Tryz.prog 14 #[.pointer (some ⟨t, 0, none⟩)] w fun e w' => OHP w L e w' := by
  obtain ⟨G, ps, h1, h2⟩ := hT
  exact gAll_any h1 hk.1 hk.2.1 (fun x hx => (hk.2.2 x hx).1)
theorem tLen (n : Nat) (hG : GT w) (hT : PT w t F L) (hk : HsOk 100 L) (hn : L.length = n) :
    Calls Tryz.prog 23 #[.pointer (some ⟨t, 0, none⟩)] w fun e w' => e = .returned (.int .i64 (n : Int)) ∧ Below w.heap.size w w' := by
  obtain ⟨G, ps, h1, h2⟩ := hT
  refine (gLen_eq h1.1).mono ?_
  rintro e w' ⟨rfl, rfl⟩
  exact ⟨by rw [hn], Below.refl _ _⟩
theorem PTG.nodes {G : TG} {ps : List Pth} (h : PTG w t G ps L) : nodL L = (ps.length : Int) + 1 := by
  refine nodL_count L ps h.2.1.1 (fun p => ?_)
  rw [h.2.1.2]
  constructor
  · rintro ⟨h1, h2⟩
    exact ⟨h1, h.2.2.2.1 p ((h.2.1.2 p).2 ⟨h1, h2⟩)⟩
  · rintro ⟨h1, x, hx, hp⟩
    exact ⟨h1, h.node hx hp⟩
theorem tNodes (v : Int) (hG : GT w) (hT : PT w t F L) (hk : HsOk 100 L) (hn : nodL L = v) :
    Calls Tryz.prog 22 #[.pointer (some ⟨t, 0, none⟩)] w fun e w' => e = .returned (.int .i64 v) ∧ Below w.heap.size w w' := by
  obtain ⟨G, ps, h1, h2⟩ := hT
  have h3 := h1.psl hk.2.1 (fun x hx => (hk.2.2 x hx).1)
  refine (gNodes_eq h1.1 (by omega) (by omega)).mono ?_
  rintro e w' ⟨rfl, rfl⟩
  rw [h1.nodes] at hn
  exact ⟨by rw [← hn, Int.add_comm], Below.refl _ _⟩
/-- A nil one. -/
theorem nAdd (f c0 : List UInt8) (hG : GT w) : Calls Tryz.prog 20 #[.pointer none, .string ⟨f.toArray⟩, .string ⟨c0.toArray⟩] w fun e w' => e = .returned (.bool false) ∧ Below w.heap.size w w' :=
  (addN_eq w f c0).mono fun e w' ⟨h1, h2⟩ => ⟨h1, h2 ▸ Below.refl _ _⟩
theorem nRem (f c0 : List UInt8) (hG : GT w) : Calls Tryz.prog 21 #[.pointer none, .string ⟨f.toArray⟩, .string ⟨c0.toArray⟩] w fun e w' => e = .returned (.bool false) ∧ Below w.heap.size w w' :=
  (remN_eq w f c0).mono fun e w' ⟨h1, h2⟩ => ⟨h1, h2 ▸ Below.refl _ _⟩
theorem nMatch (nm : List UInt8) (hG : GT w) : Calls Tryz.prog 19 #[.pointer none, .string ⟨nm.toArray⟩] w fun e w' => SVP w [] e w' :=
  (matN_eq w nm).mono fun e w' ⟨h1, h2⟩ => ⟨none, 0, h1, Strs.nil _, .inl ⟨rfl, rfl⟩, Nat.le_refl _, h2 ▸ Below.refl _ _⟩
theorem nOf (c0 : List UInt8) (hG : GT w) : Calls Tryz.prog 15 #[.pointer none, .string ⟨c0.toArray⟩] w fun e w' => OSP w [] e w' := ofN_eq w c0
theorem nAll (hG : GT w) : Calls Tryz.prog 14 #[.pointer none] w fun e w' => OHP w [] e w' := allN_eq w
theorem nLen (hG : GT w) : Calls Tryz.prog 23 #[.pointer none] w fun e w' => e = .returned (.int .i64 0) ∧ Below w.heap.size w w' :=
  (lenN_eq w).mono fun e w' ⟨h1, h2⟩ => ⟨h1, h2 ▸ Below.refl _ _⟩
theorem nNodes (hG : GT w) : Calls Tryz.prog 22 #[.pointer none] w fun e w' => e = .returned (.int .i64 0) ∧ Below w.heap.size w w' :=
  (nodesN_eq w).mono fun e w' ⟨h1, h2⟩ => ⟨h1, h2 ▸ Below.refl _ _⟩
end
theorem HsOk.add {m : Nat} {L : List Hn} {h : Hn} (hk : HsOk m L) (h1 : h.1.length ≤ 300) (h2 : h.2.length ≤ 300) : HsOk (m + 1) (addL L h) := by
  refine ⟨add_srt L h hk.1, ?_, ?_⟩
  · unfold addL
    split
    · rw [ins_len]; have := hk.2.1; omega
    · have := hk.2.1; omega
  · intro x hx
    unfold addL at hx
    split at hx
    · rcases (ins_mem h x L).1 hx with rfl | hx
      · exact ⟨h1, h2⟩
      · exact hk.2.2 x hx
    · exact hk.2.2 x hx
theorem HsOk.rem {m : Nat} {L : List Hn} (h : Hn) (hk : HsOk m L) : HsOk m (remL L h) :=
  ⟨rem_srt L h hk.1, Nat.le_trans (List.length_filter_le _ _) hk.2.1, fun x hx => hk.2.2 x (List.mem_filter.1 hx).1⟩
theorem HsOk.le {m k : Nat} {L : List Hn} (hk : HsOk m L) (h : m ≤ k) : HsOk k L := ⟨hk.1, Nat.le_trans hk.2.1 h, hk.2.2⟩
theorem HsOk.nil (m : Nat) : HsOk m [] := ⟨List.Pairwise.nil, Nat.zero_le _, fun h hh => by cases hh⟩
end Go.Proofs.YtipdmfnkkkdlbaaGreatDoor
