/-
  keep: the map from topics to messages: what its operations leave.
-/
import Derived.Test.YthhadjnffeadfaaGreatDoorKpOwn
import Derived.Test.YthhadjnffeadfaaGreatDoorTgMap
set_option linter.unusedSimpArgs false
set_option linter.unusedVariables false
namespace Go.Proofs.YthhadjnffeadfaaGreatDoor
open Go.RowKit Go.Maps Go.ChangeMaps Go.MapKept Go.WideShapes Go.WideMaps

def encM (m : Ms) : DU := .agg [.lit (.string m.1), .lit (.string m.2.1), .lit (.int .u8 m.2.2.1), .lit (.bool m.2.2.2)]
theorem enc_inj {a b : Ms} (h : encM a = encM b) : a = b := by
  obtain ⟨a1, a2, a3, a4⟩ := a
  obtain ⟨b1, b2, b3, b4⟩ := b
  unfold encM at h
  simp at h
  obtain ⟨h1, h2, h3, h4⟩ := h
  subst h1 h2 h3 h4
  rfl
def msA (m : Ms) : Array Value := #[.string ⟨m.1.toArray⟩, .string ⟨m.2.1.toArray⟩, .int .u8 m.2.2.1, .bool m.2.2.2]
def msE (v : Value) : Option (DU × List MemPlace) := match v with
  | .agg cs => (match cs.toList with
    | [.string t, .string l, .int .u8 q, .bool r] => some (encM (t.data.toList, l.data.toList, q, r), [])
    | _ => none)
  | _ => none
theorem msE_mk (m : Ms) : msE (.agg (msA m)) = some (encM m, []) := by unfold msE msA; simp
theorem msE_inv {v : Value} {z : DU × List MemPlace} (h : msE v = some z) : ∃ m : Ms, v = .agg (msA m) ∧ z.1 = encM m := by
  unfold msE at h
  split at h
  · next cs =>
    split at h
    · next t l q r e =>
      cases h
      refine ⟨(t.data.toList, l.data.toList, q, r), ?_, rfl⟩
      congr 1
      apply Array.ext'
      rw [e]
      unfold msA
      simp
    · cases h
  · cases h
def zMs : Ms := ([], [], 0, false)
/-- The map at b: of each topic its message. -/
def MM (w : World) (b : Nat) (f : List UInt8 → Option Ms) : Prop := ∃ D : DU, w.ownsMap Tryz.prog 9 msE b (Maps.size D) D ∧ ∀ l z, D.atKey (.string l) z = match f l with | none => z | some m => encM m
section
variable {w w' : World} {b : Nat} {f : List UInt8 → Option Ms}
theorem mm_has {D : DU} (k : ∀ l z, D.atKey (.string l) z = match f l with | none => z | some m => encM m) (l : List UInt8) : Maps.has D (.string l) = (f l).isSome := by
  cases hf : f l with
  | none => exact Maps.has_false_of_atKey (fun z => by rw [k, hf])
  | some m => exact Maps.has_true_of_atKey (y := encM m) (fun z => by rw [k, hf])
theorem MM.lt (h : MM w b f) : b < w.heap.size := by obtain ⟨D, h, _⟩ := h; exact h.lt
theorem MM.keep (h : MM w b f) (e : w'.heap[b]? = w.heap[b]?) : MM w' b f := by obtain ⟨D, h, k⟩ := h; exact ⟨D, own_keep h e, k⟩
theorem MM.below (h : MM w b f) (hb : Below w.heap.size w w') : MM w' b f := h.keep (hb.block b h.lt)
theorem MM.congr {g : List UInt8 → Option Ms} (h : MM w b f) (e : ∀ l, f l = g l) : MM w b g := by obtain ⟨D, h, k⟩ := h; exact ⟨D, h, fun l z => by rw [k, e]⟩
theorem MM.made (w : World) : MM (w.alloc (.map #[] 0)) w.heap.size (fun _ => none) := ⟨.map [], World.ownsMap_made w Tryz.prog 9 msE, fun l z => rfl⟩
theorem MM.no_cell (h : MM w b f) (j : Nat) : w.cell? ⟨b, j, none⟩ = none := by
  obtain ⟨D, ⟨es, cl, he, _⟩, _⟩ := h
  simp [World.cell?, he]
theorem zeroMs (W : World) : (zeroValue 32).run Tryz.prog W = .ok (.agg (msA zMs)) W := by kernel_rfl
theorem MM.look (h : MM w b f) {l : List UInt8} (hl : l.length ≤ maxLen) (m : Ms) (r : Bool) (hm : (f l).getD zMs = m) (hr : (f l).isSome = r) :
    (Instr.lookup 42 (.map (some b)) (.string ⟨l.toArray⟩) true).run Tryz.prog w = .ok (.tuple #[.agg #[.string ⟨m.1.toArray⟩, .string ⟨m.2.1.toArray⟩, .int .u8 m.2.2.1, .bool m.2.2.2], .bool r]) w := by
  obtain ⟨D, h, k⟩ := h
  obtain ⟨v, ps, h1, h2⟩ := h.look_ok kS Tryz.underlying42 (zeroMs w) (msE_mk zMs) (key_mk hl)
  rw [k] at h2
  have e : v = .agg (msA m) := by
    obtain ⟨m2, rfl, e2⟩ := msE_inv h2
    subst hm
    cases hf : f l with
    | none => rw [hf] at e2; rw [enc_inj (show encM zMs = encM m2 from e2)]; rfl
    | some x => rw [hf] at e2; rw [enc_inj (show encM x = encM m2 from e2)]; rfl
  rw [h1, e, mm_has k, hr]
  rfl
theorem MM.look1 (h : MM w b f) {l : List UInt8} (hl : l.length ≤ maxLen) (m : Ms) (hm : f l = some m) :
    (Instr.lookup 42 (.map (some b)) (.string ⟨l.toArray⟩) false).run Tryz.prog w = .ok (.agg #[.string ⟨m.1.toArray⟩, .string ⟨m.2.1.toArray⟩, .int .u8 m.2.2.1, .bool m.2.2.2]) w := by
  obtain ⟨D, h, k⟩ := h
  obtain ⟨v, ps, h1, h2⟩ := h.lookup kS Tryz.underlying42 (zeroMs w) (msE_mk zMs) (key_mk hl)
  rw [k, hm] at h2
  have e : v = .agg (msA m) := by
    obtain ⟨m2, rfl, e2⟩ := msE_inv h2
    rw [enc_inj (show encM m = encM m2 from e2)]
  rw [h1, e]
  rfl
theorem mlook_nil (w : World) {l : List UInt8} (hl : l.length ≤ maxLen) :
    (Instr.lookup 42 (.map none) (.string ⟨l.toArray⟩) true).run Tryz.prog w = .ok (.tuple #[.agg #[.string ⟨([] : List UInt8).toArray⟩, .string ⟨([] : List UInt8).toArray⟩, .int .u8 0, .bool false], .bool false]) w := by
  have := Maps.look_nil (P := Tryz.prog) (w := w) true kS Tryz.underlying42 (zeroMs w) (key_mk hl)
  rw [this]
  rfl
theorem MM.keys {D : DU} (h : w.ownsMap Tryz.prog 9 msE b (Maps.size D) D) (k : ∀ l z, D.atKey (.string l) z = match f l with | none => z | some m => encM m) : ∃ ks : List (List UInt8), ks.Nodup ∧ ks.length = Maps.size D ∧ (∀ l, l ∈ ks ↔ f l ≠ none) ∧ ks = strKeys D := by
  obtain ⟨ks, h1, h2, h3, h4⟩ := own_keys h
  refine ⟨ks, h1, h2, fun l => ?_, h4⟩
  rw [h3, mm_has k]
  cases f l <;> simp
theorem MM.len {L : List Ms} (h : MM w b (getM L)) (hS : Srt kB L) (ty : TypeId) : (Builtin.len_ #[42] ty #[.map (some b)]).run Tryz.prog w = .ok (.int .i64 (L.length : Nat)) w := by
  obtain ⟨D, h, k⟩ := h
  obtain ⟨ks, h1, h2, h3, _⟩ := MM.keys h k
  rw [h.len Tryz.underlying42 ty, ← h2]
  have hp : ks.Perm (L.map (·.1)) := by
    refine (List.perm_ext_iff_of_nodup h1 ?_).2 fun x => ?_
    · exact srt_nodup lt_ord _ (srt_names hS)
    · rw [h3, List.mem_map]
      constructor
      · intro hne
        cases hg : getM L x with
        | none => exact absurd hg hne
        | some m => exact ⟨m, get_mem hg, get_topic hg⟩
      · rintro ⟨m, hm, rfl⟩
        rw [(get_some hS).2 ⟨hm, rfl⟩]
        simp
  have := hp.length_eq
  rw [List.length_map] at this
  rw [this]
theorem mlen_nil (w : World) (ty : TypeId) : (Builtin.len_ #[42] ty #[.map none]).run Tryz.prog w = .ok (.int .i64 0) w := Maps.len_nil Tryz.underlying42 ty
theorem MM.store (h : MM w b f) (ks : List (List UInt8)) (hks : ∀ l, f l ≠ none → l ∈ ks) (hkl : ks.length < maxLen) {l : List UInt8} (hl : l.length ≤ maxLen) (m : Ms) :
    ∃ w', (Instr.mapUpdate 42 (.map (some b)) (.string ⟨l.toArray⟩) (.agg #[.string ⟨m.1.toArray⟩, .string ⟨m.2.1.toArray⟩, .int .u8 m.2.2.1, .bool m.2.2.2])).run Tryz.prog w = .ok () w' ∧ MM w' b (fun x => if x = l then some m else f x) ∧ w.mapTurned w' b := by
  obtain ⟨D, h, k⟩ := h
  have hsz := own_size_le h ks (fun x hx => hks x (fun e => by rw [mm_has k, e] at hx; cases hx))
  obtain ⟨w', h1, h2, h3⟩ := h.store kS Tryz.underlying42 (by omega) (key_mk hl) (msE_mk m)
  refine ⟨w', h1, ⟨_, own_tight h2, fun c z => ?_⟩, h3⟩
  by_cases hc : c = l
  · subst hc
    rw [Maps.atKey_put_same h.isMap (key_lit c)]
    simp
  · rw [Maps.atKey_put_other (by simp [hc]), k]
    simp [hc]
theorem MM.drop (h : MM w b f) {l : List UInt8} (hl : l.length ≤ maxLen) (ty : TypeId) :
    ∃ w', (Builtin.delete_ #[42, 9] ty #[.map (some b), .string ⟨l.toArray⟩]).run Tryz.prog w = .ok (.tuple #[]) w' ∧ MM w' b (fun x => if x = l then none else f x) ∧ w.mapTurned w' b := by
  obtain ⟨D, h, k⟩ := h
  obtain ⟨w', h1, h2, h3⟩ := h.drop kS Tryz.underlying42 (key_mk hl) ty
  refine ⟨w', h1, ⟨_, own_tight h2, fun c z => ?_⟩, h3⟩
  by_cases hc : c = l
  · subst hc
    rw [Maps.atKey_del_same]
    simp
  · rw [Maps.atKey_del_other (by simp [hc]), k]
    simp [hc]
end
/-- The program's store at t, in blocks F, has the messages L. -/
def KP (w : World) (t : Nat) (F : Nat → Prop) (L : List Ms) : Prop :=
  ∃ mb : Option Nat, w.cell? ⟨t, 0, none⟩ = some (.map mb) ∧ (∀ i, w.frozen? ⟨t, i, none⟩ = false) ∧ (match mb with | none => L = [] | some b => b ≠ t ∧ MM w b (getM L)) ∧ ∀ x, F x ↔ x = t ∨ mb = some x
section
variable {w w' : World} {t : Nat} {F : Nat → Prop} {L : List Ms}
theorem KP.lt (h : KP w t F L) (x : Nat) (hx : F x) : x < w.heap.size := by
  obtain ⟨mb, h1, _, h3, h4⟩ := h
  rcases (h4 x).1 hx with rfl | e
  · exact World.block_lt_of_cell? _ _ h1
  · subst e; exact h3.2.lt
theorem KP.root (h : KP w t F L) : F t := by obtain ⟨mb, _, _, _, h4⟩ := h; exact (h4 t).2 (Or.inl rfl)
theorem KP.keep (h : KP w t F L) (e : ∀ x, F x → w'.heap[x]? = w.heap[x]?) : KP w' t F L := by
  obtain ⟨mb, h1, h2, h3, h4⟩ := h
  have et := e t ((h4 t).2 (Or.inl rfl))
  refine ⟨mb, (World.cell?_of_block et).trans h1, fun i => (World.frozen?_of_block et).trans (h2 i), ?_, h4⟩
  cases mb with
  | none => exact h3
  | some b => exact ⟨h3.1, h3.2.keep (e b ((h4 b).2 (Or.inr rfl)))⟩
theorem KP.below (h : KP w t F L) (hb : Below w.heap.size w w') : KP w' t F L := h.keep (fun x hx => hb.block x (h.lt x hx))
theorem KP.outs {G : Nat → Prop} (h : KP w t F L) (hU : Outs w w' G) (hG : ∀ x, F x → ¬ G x) : KP w' t F L := h.keep (fun x hx => hU.block x (h.lt x hx) (hG x hx))
end
end Go.Proofs.YthhadjnffeadfaaGreatDoor
