/-
  trie: its two kinds of maps: a node's children (from levels to pointers), a node's clients (a set of texts): what their operations leave.
-/
import Derived.Test.YthhadjnffeadfaaGreatDoorTrMath
import Derived.Test.YthhadjnffeadfaaGreatDoorTrOwn
import Derived.Maps.RangeWalk
import Derived.Sort.KeysCollected
set_option linter.unusedSimpArgs false
set_option linter.unusedVariables false
namespace Go.Proofs.YthhadjnffeadfaaGreatDoor
open Go.RowKit

abbrev Pth := List (List UInt8)
/-- A path as the document's Nodes spells it. -/
def flP (p : Pth) : List UInt8 := p.flatMap fun x => x ++ [47]
theorem flP_cons (x : List UInt8) (p : Pth) : flP (x :: p) = x ++ 47 :: flP p := by unfold flP; simp
theorem levs_flP : ∀ p : Pth, (∀ x ∈ p, (47 : UInt8) ∉ x) → levs (flP p) = p ++ [[]]
  | [], _ => by unfold flP; rfl
  | x :: p, h => by
    rw [flP_cons, levs_app, levs_plain x (h x (by simp)), levs_flP p (fun y hy => h y (by simp [hy]))]; rfl
theorem flP_inj {p q : Pth} (hp : ∀ x ∈ p, (47 : UInt8) ∉ x) (hq : ∀ x ∈ q, (47 : UInt8) ∉ x) (h : flP p = flP q) : p = q := by
  have h1 := levs_flP p hp
  rw [h, levs_flP q hq] at h1
  exact (List.append_cancel_right h1).symm
theorem nodF_facts : ∀ (xs : Pth) (s : List UInt8) (all : List (List UInt8)), Srt ltB all →
    Srt ltB (nodF s all xs) ∧ ∀ y, y ∈ nodF s all xs ↔ y ∈ all ∨ ∃ q : Pth, q ≠ [] ∧ q <+: xs ∧ y = s ++ flP q
  | [], s, all, h => by
    refine ⟨h, fun y => ?_⟩
    constructor
    · exact Or.inl
    · rintro (h1 | ⟨q, h1, h2, _⟩)
      · exact h1
      · exact absurd (List.prefix_nil.1 h2) h1
  | x :: r, s, all, h => by
    obtain ⟨h1, h2⟩ := nodF_facts r (s ++ x ++ [47]) (putL all (s ++ x ++ [47])) (put_srt _ _ h)
    refine ⟨h1, fun y => ?_⟩
    show y ∈ nodF (s ++ x ++ [47]) (putL all (s ++ x ++ [47])) r ↔ _
    rw [h2, put_mem _ _ _ h]
    constructor
    · rintro ((rfl | h3) | ⟨q, h3, h4, rfl⟩)
      · refine Or.inr ⟨[x], by simp, ?_, by rw [flP_cons]; simp [flP]⟩
        exact List.cons_prefix_cons.2 ⟨rfl, List.nil_prefix⟩
      · exact Or.inl h3
      · exact Or.inr ⟨x :: q, by simp, List.cons_prefix_cons.2 ⟨rfl, h4⟩, by rw [flP_cons]; simp⟩
    · rintro (h3 | ⟨q, h3, h4, rfl⟩)
      · exact Or.inl (Or.inr h3)
      · cases q with
        | nil => exact absurd rfl h3
        | cons z q =>
          obtain ⟨rfl, h5⟩ := List.cons_prefix_cons.1 h4
          by_cases hq : q = []
          · subst hq
            left; left
            rw [flP_cons]; simp [flP]
          · exact Or.inr ⟨q, hq, h5, by rw [flP_cons]; simp⟩
theorem nodA_facts : ∀ L : List Hn, Srt ltB (nodA L) ∧ ∀ y, y ∈ nodA L ↔ ∃ h ∈ L, ∃ q : Pth, q ≠ [] ∧ q <+: levs h.1 ∧ y = flP q := by
  refine snoc_ind ⟨List.Pairwise.nil, fun y => by simp [nodA]⟩ ?_
  intro L h ⟨h1, h2⟩
  have e : nodA (L ++ [h]) = nodF [] (nodA L) (levs h.1) := by unfold nodA; rw [List.foldl_append]; rfl
  obtain ⟨h3, h4⟩ := nodF_facts (levs h.1) [] (nodA L) h1
  rw [e]
  refine ⟨h3, fun y => ?_⟩
  rw [h4, h2]
  constructor
  · rintro (⟨g, hg, q, h5⟩ | ⟨q, h5, h6, h7⟩)
    · exact ⟨g, by simp [hg], q, h5⟩
    · exact ⟨h, by simp, q, h5, h6, by simpa using h7⟩
  · rintro ⟨g, hg, q, h5, h6, h7⟩
    rcases List.mem_append.1 hg with hg | hg
    · exact Or.inl ⟨g, hg, q, h5, h6, h7⟩
    · rw [List.mem_singleton] at hg
      subst hg
      exact Or.inr ⟨q, h5, h6, by simpa using h7⟩
theorem nodL_count (L : List Hn) (ps : List Pth) (hn : ps.Nodup) (hm : ∀ p, p ∈ ps ↔ p ≠ [] ∧ ∃ h ∈ L, p <+: levs h.1) : nodL L = (ps.length : Int) + 1 := by
  obtain ⟨h1, h2⟩ := nodA_facts L
  have h47 : ∀ p ∈ ps, ∀ x ∈ p, (47 : UInt8) ∉ x := by
    intro p hp x hx
    obtain ⟨_, h, _, hpre⟩ := (hm p).1 hp
    exact levs_mem h.1 x (hpre.subset hx)
  have hperm : (ps.map flP).Perm (nodA L) := by
    refine (List.perm_ext_iff_of_nodup ?_ (srt_nodup lt_ord _ h1)).2 fun y => ?_
    · refine List.pairwise_map.2 (hn.imp_of_mem fun {p q} hp hq hne e => hne (flP_inj (h47 p hp) (h47 q hq) e))
    · rw [h2, List.mem_map]
      constructor
      · rintro ⟨p, hp, rfl⟩
        obtain ⟨a, h, b, c⟩ := (hm p).1 hp
        exact ⟨h, b, p, a, c, rfl⟩
      · rintro ⟨h, hh, q, a, b, rfl⟩
        exact ⟨q, (hm q).2 ⟨a, h, hh, b⟩, rfl⟩
  have := hperm.length_eq
  rw [List.length_map] at this
  unfold nodL
  rw [← this]

/-! Who is found along a name. -/
def LkP (cl : Pth → List UInt8 → Prop) (hid : Bool) (ns : Pth) (p : Pth) (i : Nat) (c : List UInt8) : Prop :=
  ∃ r : Pth, cl (p ++ r) c ∧ covL r (ns.drop i) = true ∧ (i = 0 → hid = true → ∀ x ∈ r.head?, x ≠ [43] ∧ x ≠ [35])
section
variable {cl : Pth → List UInt8 → Prop} {hid : Bool} {ns : Pth} (hf : ∀ q c, cl q c → fitL q = true) (hpl : ∀ x ∈ ns, plB x = true)
include hf
theorem fit_hash (p : Pth) (r : Pth) (c : List UInt8) (h : cl (p ++ [35] :: r) c) : r = [] := by
  have h1 := hf _ _ h
  have h2 : ∀ p : Pth, fitL (p ++ [35] :: r) = true → r = [] := by
    intro p
    induction p with
    | nil =>
      intro h
      rw [List.nil_append, fit_cons] at h
      simp [pl_hash] at h
      exact h.1
    | cons a p ih =>
      intro h
      rw [List.cons_append, fit_cons, Bool.and_eq_true] at h
      exact ih h.2
  exact h2 p h1
theorem lk_end (p : Pth) (i : Nat) (hi : i = ns.length) (c : List UInt8) (mb : Bool) (hmb : mb = (decide (0 < i) || !hid)) :
    LkP cl hid ns p i c ↔ cl p c ∨ (mb = true ∧ cl (p ++ [[35]]) c) := by
  subst hi
  unfold LkP
  rw [List.drop_length]
  constructor
  · rintro ⟨r, h1, h2, h3⟩
    cases r with
    | nil => left; simpa using h1
    | cons a r =>
      by_cases ha : a = [35]
      · subst ha
        right
        obtain rfl := fit_hash hf p r c h1
        refine ⟨?_, h1⟩
        rw [hmb, Bool.or_eq_true, decide_eq_true_eq, Bool.not_eq_true']
        by_cases h0 : ns.length = 0
        · right
          cases hh : hid with
          | false => rfl
          | true => exact absurd rfl (h3 h0 hh [35] (by simp)).2
        · left; omega
      · rw [cov_end a r ha] at h2; cases h2
  · rintro (h1 | ⟨h1, h2⟩)
    · exact ⟨[], by simpa using h1, by rw [cov_nil]; rfl, fun _ _ x hx => by cases hx⟩
    · refine ⟨[[35]], h2, cov_hash _ _, fun h3 h4 x hx => ?_⟩
      rw [hmb, Bool.or_eq_true, decide_eq_true_eq, Bool.not_eq_true'] at h1
      rcases h1 with h1 | h1
      · omega
      · rw [h4] at h1; cases h1
include hpl
theorem lk_step (p : Pth) (i : Nat) (y : List UInt8) (hy : ns[i]? = some y) (c : List UInt8) (mb : Bool) (hmb : mb = (decide (0 < i) || !hid)) :
    LkP cl hid ns p i c ↔ (mb = true ∧ cl (p ++ [[35]]) c) ∨ LkP cl hid ns (p ++ [y]) (i + 1) c ∨ (mb = true ∧ LkP cl hid ns (p ++ [[43]]) (i + 1) c) := by
  have hlt := (List.getElem?_eq_some_iff.1 hy).1
  have hdr : ns.drop i = y :: ns.drop (i + 1) := by rw [List.drop_eq_getElem_cons hlt, (List.getElem?_eq_some_iff.1 hy).2]
  have hyp := hpl y (List.mem_of_getElem? hy)
  have hne := pl_ne y hyp
  have hmi : mb = true ↔ (i = 0 → hid = true → False) := by
    rw [hmb, Bool.or_eq_true, decide_eq_true_eq, Bool.not_eq_true']
    constructor
    · rintro (h | h) h0 h1
      · omega
      · rw [h1] at h; cases h
    · intro h
      by_cases h0 : i = 0
      · right
        cases hh : hid with
        | false => rfl
        | true => exact (h h0 hh).elim
      · left; omega
  unfold LkP
  rw [hdr]
  constructor
  · rintro ⟨r, h1, h2, h3⟩
    cases r with
    | nil => rw [cov_nil] at h2; cases h2
    | cons a r =>
      by_cases ha : a = [35]
      · subst ha
        left
        obtain rfl := fit_hash hf p r c h1
        exact ⟨hmi.2 fun h0 hh => (h3 h0 hh [35] (by simp)).2 rfl, h1⟩
      · rw [cov_cons a y _ _ ha, Bool.and_eq_true] at h2
        right
        by_cases hp : a = [43]
        · subst hp
          right
          refine ⟨hmi.2 fun h0 hh => (h3 h0 hh [43] (by simp)).1 rfl, r, by simpa using h1, h2.2, fun h => by omega⟩
        · left
          have := h2.1
          unfold lcB at this
          rw [if_neg hp] at this
          obtain rfl : a = y := by simpa using this
          exact ⟨r, by simpa using h1, h2.2, fun h => by omega⟩
  · rintro (⟨h1, h2⟩ | ⟨r, h1, h2, _⟩ | ⟨h0, r, h1, h2, _⟩)
    · refine ⟨[[35]], h2, cov_hash _ _, fun h3 h4 x hx => (hmi.1 h1 h3 h4).elim⟩
    · refine ⟨y :: r, by simpa using h1, ?_, fun _ _ x hx => ?_⟩
      · rw [cov_cons y y _ _ hne.2, lc_refl y hne.2, h2]; rfl
      · simp at hx; subst hx; exact hne
    · refine ⟨[43] :: r, by simpa using h1, ?_, fun h3 h4 => (hmi.1 h0 h3 h4).elim⟩
      rw [cov_cons [43] y _ _ (by decide), h2]
      unfold lcB
      simp [hne.2]
end
theorem lk_mat (L : List Hn) (cl : Pth → List UInt8 → Prop) (hcl : ∀ q c, cl q c ↔ ∃ h ∈ L, levs h.1 = q ∧ h.2 = c) (hfil : ∀ h ∈ L, filB h.1 = true) (nm : List UInt8) (hn : namB nm = true) (c : List UInt8) :
    LkP cl (dolB nm) (levs nm) [] 0 c ↔ c ∈ matL L nm := by
  rw [(mat_facts nm L).2]
  unfold LkP
  have hns := nam_fil nm hn
  constructor
  · rintro ⟨r, h1, h2, h3⟩
    rw [List.nil_append, hcl] at h1
    obtain ⟨h, hh, rfl, rfl⟩ := h1
    refine ⟨h, hh, rfl, ?_⟩
    have hfh := hfil h hh
    unfold matB
    rw [hn, Bool.true_and]
    refine covB_mk hfh hns ?_ (by simpa using h2)
    cases hd : dolB nm with
    | false => simp
    | true =>
      rw [Bool.and_true]
      have h4 := h3 rfl hd
      rw [fit_head h.1 hfh]
      have e : headL h.1 ∈ (levs h.1).head? := by
        unfold headL
        cases hl : levs h.1 with
        | nil => exact absurd hl (levs_ne h.1)
        | cons a r => simp
      have := h4 _ e
      simp [this.1, this.2]
  · rintro ⟨h, hh, rfl, hm⟩
    obtain ⟨_, hc⟩ := matB_parts hm
    obtain ⟨h1, _, h3, h4⟩ := covB_parts hc
    refine ⟨levs h.1, (hcl _ _).2 ⟨h, hh, rfl, rfl⟩, by simpa using h4, fun _ hd x hx => ?_⟩
    rw [hd, Bool.and_true, fit_head h.1 h1] at h3
    have e : headL h.1 = x := by
      unfold headL
      cases hl : levs h.1 with
      | nil => exact absurd hl (levs_ne h.1)
      | cons a r => rw [hl] at hx; simp at hx; simp [hx]
    rw [e] at h3
    simpa using h3

/-! What a walk gathers. -/
theorem sub_len {α : Type} : ∀ (Y Z : List α), Y.Nodup → Y ⊆ Z → Y.length ≤ Z.length
  | [], _, _, _ => by simp
  | y :: Y, Z, h, hs => by
    obtain ⟨h1, h2⟩ := List.nodup_cons.1 h
    obtain ⟨s, t, rfl⟩ := List.append_of_mem (hs (show y ∈ y :: Y by simp))
    have : Y ⊆ s ++ t := fun x hx => by
      have h3 := hs (show x ∈ y :: Y by simp [hx])
      rcases List.mem_append.1 h3 with h4 | h4
      · exact List.mem_append_left _ h4
      · rcases List.mem_cons.1 h4 with rfl | h4
        · exact absurd hx h1
        · exact List.mem_append_right _ h4
    have := sub_len Y (s ++ t) h2 this
    simp at this ⊢
    omega
section
variable {α : Type}
def GoodY (Y : List α) (P : α → Prop) : Prop := Y.Nodup ∧ ∀ y, y ∈ Y ↔ P y
theorem GoodY.nil {P : α → Prop} (h : ∀ y, ¬ P y) : GoodY [] P := ⟨List.nodup_nil, fun y => ⟨fun h => (by cases h), fun h1 => absurd h1 (h y)⟩⟩
theorem GoodY.app {Y Z : List α} {P Q : α → Prop} (h : GoodY Y P) (k : GoodY Z Q) (hd : ∀ y, P y → Q y → False) : GoodY (Y ++ Z) (fun y => P y ∨ Q y) :=
  ⟨List.nodup_append.2 ⟨h.1, k.1, fun a ha b hb e => by subst e; exact hd a ((h.2 a).1 ha) ((k.2 a).1 hb)⟩, fun y => by rw [List.mem_append, h.2, k.2]⟩
theorem GoodY.congr {Y : List α} {P Q : α → Prop} (h : GoodY Y P) (e : ∀ y, P y ↔ Q y) : GoodY Y Q := ⟨h.1, fun y => (h.2 y).trans (e y)⟩
theorem GoodY.one (x : α) : GoodY [x] (fun y => y = x) := ⟨by simp, fun y => by simp⟩
theorem GoodY.len {Y Z : List α} {P : α → Prop} (h : GoodY Y P) (hZ : ∀ y, P y → y ∈ Z) : Y.length ≤ Z.length := by
  have hs : Y ⊆ Z := fun y hy => hZ y ((h.2 y).1 hy)
  exact sub_len Y Z h.1 hs
end
end Go.Proofs.YthhadjnffeadfaaGreatDoor
namespace Go.Proofs.YthhadjnffeadfaaGreatDoor
open Go.RowKit Go.Maps Go.ChangeMaps Go.MapKept Go.WideShapes Go.WideMaps

theorem kS : Keyed Tryz.prog 9 := string_keyed Tryz.underlying9
theorem key_mk {l : List UInt8} (hl : l.length ≤ maxLen) : keyOf Tryz.prog 9 (.string ⟨l.toArray⟩) = some (.string l) := keyOf_string_mk Tryz.underlying9 (by show (l.toArray).size ≤ maxLen; simpa using hl)
theorem key_lit (l : List UInt8) : WideAt.IsKeyLit (.string l) := trivial
theorem key_same (a b : List UInt8) : (Lit.string a).sameKey (.string b) = decide (a = b) := by
  cases h : (Lit.string a).sameKey (.string b) with
  | true => have := WideAt.sameKey_eq h; simp at this; simp [this]
  | false =>
    symm
    rw [decide_eq_false_iff_not]
    rintro rfl
    rw [WideAt.sameKey_self (key_lit a)] at h; cases h
section
variable {H : Type} {R : Value → Option (DataW H × List MemPlace)} {w w' : World} {b n : Nat} {D : DataW H}
theorem own_tight (h : w.ownsMap Tryz.prog 9 R b n D) : w.ownsMap Tryz.prog 9 R b (Maps.size D) D := by
  obtain ⟨es, clock, hb, F, _, rfl⟩ := h
  exact ⟨es, clock, hb, F, by simp [Maps.size, length_sorted], rfl⟩
theorem own_keep (h : w.ownsMap Tryz.prog 9 R b n D) (e : w'.heap[b]? = w.heap[b]?) : w'.ownsMap Tryz.prog 9 R b n D := by
  obtain ⟨es, clock, hb, r⟩ := h
  exact ⟨es, clock, e.trans hb, r⟩
theorem own_keys (h : w.ownsMap Tryz.prog 9 R b n D) : ∃ ks : List (List UInt8), ks.Nodup ∧ ks.length = Maps.size D ∧ (∀ l, l ∈ ks ↔ Maps.has D (.string l) = true) ∧ ks = strKeys D := by
  obtain ⟨es, hD, hpw, _⟩ := h.entries kS
  obtain ⟨es', hD', hko⟩ := h.keysOf
  obtain rfl : es = es' := by rw [hD] at hD'; simpa using hD'
  subst hD
  have hk : ∀ p ∈ es, ∃ x, p.1 = .string x := fun p hp => by obtain ⟨v, hv⟩ := hko p hp; obtain ⟨x, _, hx, _⟩ := Maps.keyOf_str Tryz.underlying9 hv; exact ⟨x, hx⟩
  refine ⟨es.map fun p => strOf p.1, ?_, by simp [Maps.size], fun l => ?_, rfl⟩
  · refine List.pairwise_map.2 (hpw.imp_of_mem fun {p q} hp' hq' hne e => hne ?_)
    obtain ⟨x, hx⟩ := hk p hp'
    obtain ⟨y, hy⟩ := hk q hq'
    rw [hx, hy] at e ⊢
    exact congrArg _ e
  · rw [Maps.has_eq, List.any_eq_true, List.mem_map]
    constructor
    · rintro ⟨p, hp, rfl⟩
      obtain ⟨x, hx⟩ := hk p hp
      exact ⟨p, hp, by rw [hx, key_same]; simp [strOf]⟩
    · rintro ⟨p, hp, hs⟩
      obtain ⟨x, hx⟩ := hk p hp
      rw [hx, key_same, decide_eq_true_eq] at hs
      exact ⟨p, hp, by rw [hx, hs]; rfl⟩
theorem own_size_le (h : w.ownsMap Tryz.prog 9 R b n D) (ks : List (List UInt8)) (hk : ∀ l, Maps.has D (.string l) = true → l ∈ ks) : Maps.size D ≤ ks.length := by
  obtain ⟨k1, h1, h2, h3, _⟩ := own_keys h
  rw [← h2]
  exact sub_len k1 ks h1 (fun x hx => hk x ((h3 x).1 hx))
theorem own_size_zero (h : w.ownsMap Tryz.prog 9 R b n D) : Maps.size D = 0 ↔ ∀ l, Maps.has D (.string l) = false := by
  obtain ⟨k1, h1, h2, h3, _⟩ := own_keys h
  rw [← h2]
  constructor
  · intro h0 l
    cases hh : Maps.has D (.string l) with
    | false => rfl
    | true =>
      have := (h3 l).2 hh
      rw [List.eq_nil_of_length_eq_zero h0] at this; cases this
  · intro h0
    cases k1 with
    | nil => rfl
    | cons x r => have := (h3 x).1 (by simp); rw [h0 x] at this; cases this
theorem turned_block (h : w.mapTurned w' b) (c : Nat) (hc : c ≠ b) : w'.heap[c]? = w.heap[c]? := by
  obtain ⟨es, clock, es', clock', hb, rfl⟩ := h
  exact heap_setBlock_other hb _ hc
theorem turned_size (h : w.mapTurned w' b) : w'.heap.size = w.heap.size := by
  obtain ⟨es, clock, es', clock', hb, rfl⟩ := h
  simp [setBlock]
theorem turned_outs {F : Nat → Prop} (h : w.mapTurned w' b) (hF : F b) : Outs w w' F :=
  ⟨h.grown.os, h.grown.tape, h.grown.output, h.grown.size, fun c hc hn => turned_block h c (fun e => hn (e ▸ hF))⟩
end
/-! A set of clients. -/
abbrev DU := DataW Unit
def CM (w : World) (m : Nat) (s : List UInt8 → Prop) : Prop := ∃ D : DU, w.ownsMap Tryz.prog 9 unitElem m (Maps.size D) D ∧ ∀ l, Maps.has D (.string l) = true ↔ s l
section
variable {w w' : World} {m : Nat} {s : List UInt8 → Prop}
theorem CM.lt (h : CM w m s) : m < w.heap.size := by obtain ⟨D, h, _⟩ := h; exact h.lt
theorem CM.keep (h : CM w m s) (e : w'.heap[m]? = w.heap[m]?) : CM w' m s := by obtain ⟨D, h, k⟩ := h; exact ⟨D, own_keep h e, k⟩
theorem CM.congr {s' : List UInt8 → Prop} (h : CM w m s) (e : ∀ l, s l ↔ s' l) : CM w m s' := by obtain ⟨D, h, k⟩ := h; exact ⟨D, h, fun l => (k l).trans (e l)⟩
theorem CM.made (w : World) : CM (w.alloc (.map #[] 0)) w.heap.size (fun _ => False) := ⟨.map [], World.ownsMap_made w Tryz.prog 9 unitElem, fun l => by simp [Maps.has_eq]⟩
end
/-! A node's children. -/
def ptrE (v : Value) : Option (DU × List MemPlace) := match v with
  | .pointer none => some (.nil, [])
  | .pointer (some ⟨b, 0, none⟩) => some (.lit (.int .i64 b), [])
  | _ => none
theorem lit_inj {a b : Int} (h : (DataW.lit (Lit.int .i64 a) : DU) = .lit (.int .i64 b)) : a = b := by cases h; rfl
def ptrO : Option Nat → Value
  | none => .pointer none
  | some b => .pointer (some ⟨b, 0, none⟩)
theorem ptrE_inv {v : Value} {z : DU × List MemPlace} (h : ptrE v = some z) : (v = .pointer none ∧ z.1 = .nil) ∨ ∃ b : Nat, v = .pointer (some ⟨b, 0, none⟩) ∧ z.1 = .lit (.int .i64 b) := by
  unfold ptrE at h
  split at h
  · cases h; exact Or.inl ⟨rfl, rfl⟩
  · cases h; exact Or.inr ⟨_, rfl, rfl⟩
  · cases h
def KM (w : World) (m : Nat) (f : List UInt8 → Option Nat) : Prop := ∃ D : DU, w.ownsMap Tryz.prog 9 ptrE m (Maps.size D) D ∧ ∀ l z, D.atKey (.string l) z = match f l with | none => z | some b => .lit (.int .i64 b)
section
variable {w w' : World} {m : Nat} {f : List UInt8 → Option Nat}
theorem km_has {D : DU} (k : ∀ l z, D.atKey (.string l) z = match f l with | none => z | some b => .lit (.int .i64 b)) (l : List UInt8) : Maps.has D (.string l) = (f l).isSome := by
  cases hf : f l with
  | none => exact Maps.has_false_of_atKey (fun z => by rw [k, hf])
  | some b => exact Maps.has_true_of_atKey (y := .lit (.int .i64 b)) (fun z => by rw [k, hf])
theorem KM.lt (h : KM w m f) : m < w.heap.size := by obtain ⟨D, h, _⟩ := h; exact h.lt
theorem KM.keep (h : KM w m f) (e : w'.heap[m]? = w.heap[m]?) : KM w' m f := by obtain ⟨D, h, k⟩ := h; exact ⟨D, own_keep h e, k⟩
theorem KM.congr {g : List UInt8 → Option Nat} (h : KM w m f) (e : ∀ l, f l = g l) : KM w m g := by obtain ⟨D, h, k⟩ := h; exact ⟨D, h, fun l z => by rw [k, e]⟩
theorem KM.made (w : World) : KM (w.alloc (.map #[] 0)) w.heap.size (fun _ => none) := ⟨.map [], World.ownsMap_made w Tryz.prog 9 ptrE, fun l z => rfl⟩
end
/-! The operations at a step of a region. -/
section
variable {P : Program} {ops : Array Oper} {o : Oper} {a : Act} {K : Act → World → Prop} {Q : Exit → Act → World → Prop} {E : Prop} {w w' : World}
theorem step_upd (hgd : o.guard = none) (t : TypeId) (m x v : Operand) (ho : o.op = Op.mapUpdate t m x v) {mv kv vv : Value} (hm : a.eval m = mv) (hx : a.eval x = kv) (hv : a.eval v = vv)
    (hrun : (Instr.mapUpdate t mv kv vv).run P w = .ok () w') (h : K (a.put o.dst undef) w') : if Region.wanted o (yielded ops a.tmps) = true then Oper.wp P o a w K Q else E := by
  have hw : Region.wanted o (yielded ops a.tmps) = true := by simp [Region.wanted, hgd]
  rw [if_pos hw]
  unfold Oper.wp
  simp [execOp, ho, hm, hx, hv, hrun, Result.andThen]
  exact h
theorem step_del (hgd : o.guard = none) (t k : TypeId) (m x : Operand) (ho : o.op = Op.call { callee := Callee.builtin Builtin.delete, args := #[m, x], argTypes := #[t, k] }) {mv kv : Value} (hm : a.eval m = mv) (hx : a.eval x = kv)
    (hrun : (Builtin.delete_ #[t, k] o.type #[mv, kv]).run P w = .ok (.tuple #[]) w') (h : K (a.put o.dst (.tuple #[])) w') : if Region.wanted o (yielded ops a.tmps) = true then Oper.wp P o a w K Q else E := by
  have hw : Region.wanted o (yielded ops a.tmps) = true := by simp [Region.wanted, hgd]
  rw [if_pos hw]
  unfold Oper.wp
  simp [execOp, ho, resolve, invoke, builtin, hm, hx, hrun, Result.andThen]
  exact h
end
end Go.Proofs.YthhadjnffeadfaaGreatDoor
