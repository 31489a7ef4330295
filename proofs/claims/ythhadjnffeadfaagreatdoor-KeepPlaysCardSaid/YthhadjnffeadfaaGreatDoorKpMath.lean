/-
  keep: messages as plain data: what Set leaves, what is found; the last of each topic: plain functions.
-/
import Derived.Test.YthhadjnffeadfaaGreatDoorTrMath
set_option linter.unusedSimpArgs false
set_option linter.unusedVariables false
namespace Go.Proofs.YthhadjnffeadfaaGreatDoor

/-- A message: topic, payload, Qos, Retain. -/
abbrev Ms := List UInt8 × List UInt8 × Int × Bool
def mayB (m : Ms) : Bool := namB m.1 && decide (m.2.2.1 ≤ 2)
def rtM (m : Ms) : Ms := (m.1, m.2.1, m.2.2.1, true)
def kB (a b : Ms) : Bool := ltB a.1 b.1
def delM (L : List Ms) (t : List UInt8) : List Ms := L.filter fun x => x.1 != t
/-- The rest of a row behind some of it, with m where it belongs, unless it is done. -/
def goM (m : Ms) : Bool → List Ms → List Ms
  | d, [] => if d then [] else [m]
  | d, x :: r => (if !d && ltB m.1 x.1 then [m] else []) ++ ((if x.1 != m.1 then [x] else []) ++ goM m (d || ltB m.1 x.1) r)
def setM (L : List Ms) (m : Ms) : List Ms := if mayB m then goM (rtM m) (m.2.1 == []) L else L
def getM (L : List Ms) (t : List UInt8) : Option Ms := L.find? fun x => x.1 == t
def fndM (L : List Ms) (f : List UInt8) : List Ms := L.filter fun x => matB f x.1
def madeM (l : List Ms) : List Ms := l.foldl setM []
theorem goM_true (m : Ms) : ∀ L, goM m true L = delM L m.1
  | [] => rfl
  | x :: r => by
    unfold goM
    rw [Bool.true_or, goM_true m r]
    unfold delM
    rw [List.filter_cons]
    cases x.1 != m.1 <;> rfl
theorem del_mem {L : List Ms} {t : List UInt8} {x : Ms} : x ∈ delM L t ↔ x ∈ L ∧ x.1 ≠ t := by unfold delM; rw [List.mem_filter, bne_iff_ne]
theorem goM_mem (m x : Ms) : ∀ L, x ∈ goM m false L ↔ x = m ∨ (x ∈ L ∧ x.1 ≠ m.1)
  | [] => by simp [goM]
  | y :: r => by
    unfold goM
    rw [Bool.false_or, Bool.not_false, Bool.true_and, List.mem_append, List.mem_append]
    cases hl : ltB m.1 y.1 with
    | true =>
      rw [goM_true, if_pos rfl, del_mem, List.mem_singleton, List.mem_cons]
      by_cases hy : y.1 = m.1
      · rw [if_neg (by simp [hy])]
        constructor
        · rintro (h | h | h)
          · exact Or.inl h
          · cases h
          · exact Or.inr ⟨Or.inr h.1, h.2⟩
        · rintro (h | ⟨rfl | h, h2⟩)
          · exact Or.inl h
          · exact absurd hy h2
          · exact Or.inr (Or.inr ⟨h, h2⟩)
      · rw [if_pos (by simp [hy]), List.mem_singleton]
        constructor
        · rintro (h | rfl | h)
          · exact Or.inl h
          · exact Or.inr ⟨Or.inl rfl, hy⟩
          · exact Or.inr ⟨Or.inr h.1, h.2⟩
        · rintro (h | ⟨rfl | h, h2⟩)
          · exact Or.inl h
          · exact Or.inr (Or.inl rfl)
          · exact Or.inr (Or.inr ⟨h, h2⟩)
    | false =>
      rw [if_neg (by decide), goM_mem m x r, List.mem_cons]
      by_cases hy : y.1 = m.1
      · rw [if_neg (by simp [hy])]
        constructor
        · rintro (h | h | h | h)
          · cases h
          · cases h
          · exact Or.inl h
          · exact Or.inr ⟨Or.inr h.1, h.2⟩
        · rintro (h | ⟨rfl | h, h2⟩)
          · exact Or.inr (Or.inr (Or.inl h))
          · exact absurd hy h2
          · exact Or.inr (Or.inr (Or.inr ⟨h, h2⟩))
      · rw [if_pos (by simp [hy]), List.mem_singleton]
        constructor
        · rintro (h | rfl | h | h)
          · cases h
          · exact Or.inr ⟨Or.inl rfl, hy⟩
          · exact Or.inl h
          · exact Or.inr ⟨Or.inr h.1, h.2⟩
        · rintro (h | ⟨rfl | h, h2⟩)
          · exact Or.inr (Or.inr (Or.inl h))
          · exact Or.inr (Or.inl rfl)
          · exact Or.inr (Or.inr (Or.inr ⟨h, h2⟩))
theorem del_srt {L : List Ms} (t : List UInt8) (h : Srt kB L) : Srt kB (delM L t) := srt_filter _ L h
theorem goM_srt (m : Ms) : ∀ L, Srt kB L → Srt kB (goM m false L)
  | [], _ => by unfold goM; exact List.pairwise_singleton _ _
  | y :: r, hs => by
    obtain ⟨h1, h2⟩ := (srt_cons y r).1 hs
    unfold goM
    rw [Bool.false_or, Bool.not_false, Bool.true_and]
    cases hl : ltB m.1 y.1 with
    | true =>
      have hne : y.1 ≠ m.1 := fun e => by rw [e, lt_ord.irr] at hl; cases hl
      rw [if_pos rfl, if_pos (by simp [hne]), goM_true]
      show Srt kB (m :: y :: delM r m.1)
      rw [srt_cons, srt_cons]
      refine ⟨fun b hb => ?_, fun b hb => h1 b (del_mem.1 hb).1, del_srt _ h2⟩
      rcases List.mem_cons.1 hb with rfl | hb
      · exact hl
      · exact lt_ord.tra _ _ _ hl (h1 b (del_mem.1 hb).1)
    | false =>
      rw [if_neg (by decide), List.nil_append]
      by_cases hy : y.1 = m.1
      · rw [if_neg (by simp [hy]), List.nil_append]
        exact goM_srt m r h2
      · rw [if_pos (by simp [hy])]
        show Srt kB (y :: goM m false r)
        rw [srt_cons]
        refine ⟨fun b hb => ?_, goM_srt m r h2⟩
        rcases (goM_mem m b r).1 hb with rfl | hb
        · exact lt_ord.tot _ _ (fun e => hy e.symm) hl
        · exact h1 b hb.1
theorem set_srt {L : List Ms} (m : Ms) (h : Srt kB L) : Srt kB (setM L m) := by
  unfold setM
  split
  · cases m.2.1 == [] with
    | true => rw [goM_true]; exact del_srt _ h
    | false => exact goM_srt _ L h
  · exact h
theorem set_mem {L : List Ms} {m : Ms} (x : Ms) (hm : mayB m = true) : x ∈ setM L m ↔ (m.2.1 ≠ [] ∧ x = rtM m) ∨ (x ∈ L ∧ x.1 ≠ m.1) := by
  unfold setM
  rw [if_pos hm]
  by_cases he : m.2.1 = []
  · rw [show (m.2.1 == []) = true by simp [he], goM_true, del_mem]
    constructor
    · exact fun h => Or.inr h
    · rintro (⟨h, _⟩ | h)
      · exact absurd he h
      · exact h
  · rw [show (m.2.1 == []) = false by simpa using he, goM_mem]
    exact ⟨fun h => h.elim (fun e => Or.inl ⟨he, e⟩) Or.inr, fun h => h.elim (fun e => Or.inl e.2) Or.inr⟩
theorem set_no {L : List Ms} {m : Ms} (hm : mayB m = false) : setM L m = L := by unfold setM; rw [hm]; rfl
theorem set_len {L : List Ms} (m : Ms) : (setM L m).length ≤ L.length + 1 := by
  have h : ∀ (m : Ms) (L : List Ms) (d : Bool), (goM m d L).length ≤ L.length + (if d then 0 else 1) := by
    intro m L
    induction L with
    | nil => intro d; unfold goM; cases d <;> simp
    | cons y r ih =>
      intro d
      unfold goM
      rw [List.length_append, List.length_append, List.length_cons]
      have h1 : (if y.1 != m.1 then [y] else []).length ≤ 1 := by split <;> simp
      generalize (if y.1 != m.1 then [y] else []) = z at h1 ⊢
      cases d with
      | true =>
        have := ih true
        simp at this ⊢
        omega
      | false =>
        cases hl : ltB m.1 y.1 with
        | true =>
          have := ih true
          simp at this ⊢
          omega
        | false =>
          have := ih false
          simp at this ⊢
          omega
  unfold setM
  split
  · have := h (rtM m) L (m.2.1 == [])
    have : (if (m.2.1 == []) = true then 0 else 1) ≤ 1 := by split <;> omega
    omega
  · omega
/-- Rows in order with the same members are the same. -/
theorem srt_same : ∀ (l m : List Ms), Srt kB l → Srt kB m → (∀ x, x ∈ l ↔ x ∈ m) → l = m
  | [], [], _, _, _ => rfl
  | [], b :: m, _, _, h => absurd ((h b).2 (by simp)) (by simp)
  | a :: l, [], _, _, h => absurd ((h a).1 (by simp)) (by simp)
  | a :: l, b :: m, h1, h2, h => by
    obtain ⟨p1, p2⟩ := (srt_cons a l).1 h1
    obtain ⟨q1, q2⟩ := (srt_cons b m).1 h2
    have irr : ∀ x : Ms, kB x x = true → False := fun x hx => by unfold kB at hx; rw [lt_ord.irr] at hx; cases hx
    have hab : a = b := by
      rcases List.mem_cons.1 ((h a).1 (by simp)) with e | e
      · exact e
      · rcases List.mem_cons.1 ((h b).2 (by simp)) with f | f
        · exact f.symm
        · exact (irr a (lt_ord.tra _ _ _ (p1 b f) (q1 a e))).elim
    subst hab
    rw [srt_same l m p2 q2 (fun x => ⟨fun hx => ?_, fun hx => ?_⟩)]
    · rcases List.mem_cons.1 ((h x).1 (by simp [hx])) with e | e
      · subst e; exact (irr x (p1 x hx)).elim
      · exact e
    · rcases List.mem_cons.1 ((h x).2 (by simp [hx])) with e | e
      · subst e; exact (irr x (q1 x hx)).elim
      · exact e
theorem srt_topic {L : List Ms} (h : Srt kB L) {x y : Ms} (hx : x ∈ L) (hy : y ∈ L) (e : x.1 = y.1) : x = y := by
  induction L with
  | nil => cases hx
  | cons a r ih =>
    obtain ⟨h1, h2⟩ := (srt_cons a r).1 h
    have ne : ∀ z ∈ r, a.1 ≠ z.1 := fun z hz e => by have := h1 z hz; unfold kB at this; rw [e, lt_ord.irr] at this; cases this
    rcases List.mem_cons.1 hx with hx1 | hx1
    · rcases List.mem_cons.1 hy with hy1 | hy1
      · exact hx1.trans hy1.symm
      · exact absurd (by rw [← hx1]; exact e) (ne y hy1)
    · rcases List.mem_cons.1 hy with hy1 | hy1
      · exact absurd (by rw [← hy1]; exact e.symm) (ne x hx1)
      · exact ih h2 hx1 hy1
theorem srt_names {L : List Ms} (h : Srt kB L) : Srt ltB (L.map (·.1)) := List.pairwise_map.2 h
theorem get_some {L : List Ms} (h : Srt kB L) {t : List UInt8} {x : Ms} : getM L t = some x ↔ x ∈ L ∧ x.1 = t := by
  unfold getM
  constructor
  · intro e
    exact ⟨List.mem_of_find?_eq_some e, by have := List.find?_some e; simpa using this⟩
  · rintro ⟨hx, ht⟩
    cases hf : L.find? (fun x => x.1 == t) with
    | none =>
      have := List.find?_eq_none.1 hf x hx
      simp [ht] at this
    | some y =>
      have h1 := List.mem_of_find?_eq_some hf
      have h2 := List.find?_some hf
      have h3 : y.1 = t := by simpa using h2
      rw [srt_topic h hx h1 (ht.trans h3.symm)]
theorem get_none {L : List Ms} {t : List UInt8} : getM L t = none ↔ ∀ x ∈ L, x.1 ≠ t := by
  unfold getM
  rw [List.find?_eq_none]
  simp
theorem get_topic {L : List Ms} {t : List UInt8} {x : Ms} (h : getM L t = some x) : x.1 = t := by
  unfold getM at h
  have := List.find?_some h
  simpa using this
theorem get_mem {L : List Ms} {t : List UInt8} {x : Ms} (h : getM L t = some x) : x ∈ L := List.mem_of_find?_eq_some h
theorem get_set {L : List Ms} (h : Srt kB L) {m : Ms} (hm : mayB m = true) (t : List UInt8) : getM (setM L m) t = if t = m.1 then (if m.2.1 = [] then none else some (rtM m)) else getM L t := by
  have hs := set_srt m h
  have key : ∀ x, getM (setM L m) t = some x ↔ (if t = m.1 then (if m.2.1 = [] then none else some (rtM m)) else getM L t) = some x := by
    intro x
    rw [get_some hs, set_mem x hm]
    by_cases ht : t = m.1
    · rw [if_pos ht]
      by_cases he : m.2.1 = []
      · rw [if_pos he]
        constructor
        · rintro ⟨h1 | h1, h2⟩
          · exact absurd he h1.1
          · exact absurd (h2.trans ht) h1.2
        · intro h1; cases h1
      · rw [if_neg he]
        constructor
        · rintro ⟨h1 | h1, h2⟩
          · rw [h1.2]
          · exact absurd (h2.trans ht) h1.2
        · intro h1
          cases h1
          exact ⟨Or.inl ⟨he, rfl⟩, ht.symm⟩
    · rw [if_neg ht, get_some h]
      constructor
      · rintro ⟨h1 | h1, h2⟩
        · rw [h1.2] at h2; exact absurd h2.symm ht
        · exact ⟨h1.1, h2⟩
      · rintro ⟨h1, h2⟩
        exact ⟨Or.inr ⟨h1, fun e => ht (h2.symm.trans e)⟩, h2⟩
  cases h1 : getM (setM L m) t with
  | some x => exact ((key x).1 h1).symm
  | none =>
    cases h2 : (if t = m.1 then (if m.2.1 = [] then none else some (rtM m)) else getM L t) with
    | none => rfl
    | some x => rw [(key x).2 h2] at h1; cases h1
/-- What stands there is right, and small. -/
def MsOk (x : Ms) : Prop := mayB x = true ∧ x.2.1 ≠ [] ∧ x.2.2.2 = true ∧ x.1.length ≤ 300 ∧ x.2.1.length ≤ 300
def KsOk (n : Nat) (L : List Ms) : Prop := Srt kB L ∧ L.length ≤ n ∧ ∀ x ∈ L, MsOk x
theorem KsOk.nil (n : Nat) : KsOk n [] := ⟨List.Pairwise.nil, by simp, fun x hx => by cases hx⟩
theorem KsOk.le {n k : Nat} {L : List Ms} (h : KsOk n L) (hk : n ≤ k) : KsOk k L := ⟨h.1, by have := h.2.1; omega, h.2.2⟩
theorem KsOk.set {n : Nat} {L : List Ms} (h : KsOk n L) {m : Ms} (h1 : m.1.length ≤ 300) (h2 : m.2.1.length ≤ 300) : KsOk (n + 1) (setM L m) := by
  refine ⟨set_srt m h.1, by have := set_len (L := L) m; have := h.2.1; omega, fun x hx => ?_⟩
  cases hm : mayB m with
  | false => rw [set_no hm] at hx; exact h.2.2 x hx
  | true =>
    rcases (set_mem x hm).1 hx with ⟨h3, rfl⟩ | h3
    · exact ⟨hm, h3, rfl, h1, h2⟩
    · exact h.2.2 x h3.1
theorem fnd_len (L : List Ms) (f : List UInt8) : (fndM L f).length ≤ L.length := List.length_filter_le _ _
theorem fnd_le (L : List Ms) (a b : List UInt8) (h : covB a b = true) : (fndM L b).length ≤ (fndM L a).length := by
  unfold fndM
  rw [← List.countP_eq_length_filter, ← List.countP_eq_length_filter]
  refine List.countP_mono_left (fun x _ hx => ?_)
  obtain ⟨h1, h2⟩ := matB_parts hx
  show matB a x.1 = true
  unfold matB
  rw [h1, covB_trans a b x.1 h h2]; rfl
theorem fnd_has {L : List Ms} {x : Ms} (hx : x ∈ L) (f : List UInt8) : (fndM L f).contains x = matB f x.1 := by
  rw [Bool.eq_iff_iff, List.contains_iff_mem]
  unfold fndM
  rw [List.mem_filter]
  exact ⟨fun h => h.2, fun h => ⟨hx, h⟩⟩
theorem made_snoc (l : List Ms) (m : Ms) : madeM (l ++ [m]) = setM (madeM l) m := by unfold madeM; rw [List.foldl_append]; rfl
theorem made_take (l : List Ms) (k : Nat) (m : Ms) (h : l[k]? = some m) : madeM (l.take (k + 1)) = setM (madeM (l.take k)) m := by
  rw [List.take_add_one, h]
  exact made_snoc _ _

/-! The last of each topic. -/
/-- Is another message of the topic set in the row? -/
def laterB (t : List UInt8) (r : List Ms) : Bool := r.any fun y => mayB y && y.1 == t
def lastB (m : Ms) (r : List Ms) : Bool := mayB m && !laterB m.1 r
def lastW : List Ms → List Ms
  | [] => []
  | m :: r => (if lastB m r && m.2.1 != [] then [rtM m] else []) ++ lastW r
theorem lastW_cons (m : Ms) (r : List Ms) : lastW (m :: r) = (if lastB m r && m.2.1 != [] then [rtM m] else []) ++ lastW r := rfl
theorem later_cons (t : List UInt8) (y : Ms) (r : List Ms) : laterB t (y :: r) = ((mayB y && y.1 == t) || laterB t r) := rfl
theorem lastW_later : ∀ (l : List Ms) (x : Ms), x ∈ lastW l → laterB x.1 l = true
  | [], x, h => by cases h
  | m :: r, x, h => by
    rw [lastW_cons] at h
    rw [later_cons, Bool.or_eq_true]
    rcases List.mem_append.1 h with h | h
    · split at h
      · next hc =>
        rw [List.mem_singleton] at h
        subst h
        unfold lastB at hc
        rw [Bool.and_eq_true, Bool.and_eq_true] at hc
        left
        rw [hc.1.1]
        simp [rtM]
      · cases h
    · right; exact lastW_later r x h
theorem lastW_nodup : ∀ l : List Ms, (lastW l).Nodup
  | [] => List.nodup_nil
  | m :: r => by
    rw [lastW_cons]
    split
    · next hc =>
      refine List.nodup_cons.2 ⟨fun h => ?_, lastW_nodup r⟩
      have h1 := lastW_later r _ h
      unfold lastB at hc
      rw [Bool.and_eq_true, Bool.and_eq_true] at hc
      have h2 := hc.1.2
      rw [show (rtM m).1 = m.1 from rfl] at h1
      rw [h1] at h2; cases h2
    · exact lastW_nodup r
theorem fold_mem : ∀ (l L : List Ms) (x : Ms), x ∈ l.foldl setM L ↔ x ∈ lastW l ∨ (x ∈ L ∧ laterB x.1 l = false)
  | [], L, x => by simp [lastW, laterB]
  | m :: r, L, x => by
    rw [List.foldl_cons, fold_mem r, later_cons, lastW_cons, List.mem_append, Bool.or_eq_false_iff]
    cases hm : mayB m with
    | false =>
      rw [set_no hm]
      have : lastB m r = false := by unfold lastB; rw [hm]; rfl
      simp [this]
    | true =>
      rw [set_mem x hm]
      by_cases hx : x.1 = m.1
      · cases hl : laterB m.1 r with
        | true =>
          have : lastB m r = false := by unfold lastB; rw [hm, hl]; rfl
          rw [this, hx, hl]
          simp
        | false =>
          have : lastB m r = true := by unfold lastB; rw [hm, hl]; rfl
          rw [this, hx, hl]
          by_cases he : m.2.1 = []
          · simp [he]
          · simp [he, or_comm]
      · have hne : x ≠ rtM m := fun e => hx (by rw [e]; rfl)
        have hmx : (m.1 == x.1) = false := by simpa using fun e => hx e.symm
        rw [hmx]
        by_cases hc : (lastB m r && m.2.1 != []) = true
        · rw [if_pos hc]; simp [hne, hx]
        · rw [if_neg hc]; simp [hne, hx]
theorem made_mem (l : List Ms) (x : Ms) : x ∈ madeM l ↔ x ∈ lastW l := by
  unfold madeM
  rw [fold_mem]
  simp
theorem fold_srt : ∀ (l L : List Ms), Srt kB L → Srt kB (l.foldl setM L)
  | [], L, h => h
  | m :: r, L, h => fold_srt r _ (set_srt m h)
theorem made_srt (l : List Ms) : Srt kB (madeM l) := fold_srt l [] List.Pairwise.nil
theorem kB_nodup {L : List Ms} (h : Srt kB L) : L.Nodup := by
  refine List.Pairwise.imp (fun {a b} hab e => ?_) h
  subst e; unfold kB at hab; rw [lt_ord.irr] at hab; cases hab
theorem made_len (l : List Ms) : (lastW l).length = (madeM l).length :=
  ((List.perm_ext_iff_of_nodup (lastW_nodup l) (kB_nodup (made_srt l))).2 fun x => (made_mem l x).symm).length_eq
theorem lastW_app (a b : List Ms) (x : Ms) (h : x ∈ lastW b) : x ∈ lastW (a ++ b) := by
  induction a with
  | nil => exact h
  | cons m r ih =>
    show x ∈ lastW (m :: (r ++ b))
    rw [lastW_cons]
    exact List.mem_append_right _ ih
/-- Of one that is the last of its topic. -/
theorem get_last (l : List Ms) (i : Nat) (m : Ms) (hi : l[i]? = some m) (hl : lastB m (l.drop (i + 1)) = true) : getM (madeM l) m.1 = if m.2.1 = [] then none else some (rtM m) := by
  have hlt := (List.getElem?_eq_some_iff.1 hi).1
  have e1 : l = l.take i ++ m :: l.drop (i + 1) := by
    rw [← (List.getElem?_eq_some_iff.1 hi).2, ← List.drop_eq_getElem_cons hlt, List.take_append_drop]
  have hm : mayB m = true := by unfold lastB at hl; rw [Bool.and_eq_true] at hl; exact hl.1
  have hla : laterB m.1 (l.drop (i + 1)) = false := by unfold lastB at hl; rw [Bool.and_eq_true] at hl; simpa using hl.2
  have e2 : madeM l = (l.drop (i + 1)).foldl setM (setM (madeM (l.take i)) m) := by
    conv => lhs; rw [e1]
    unfold madeM
    rw [List.foldl_append, List.foldl_cons]
  by_cases he : m.2.1 = []
  · rw [if_pos he, get_none]
    intro x hx e
    rw [e2, fold_mem, set_mem x hm] at hx
    rcases hx with hx | ⟨⟨h1, _⟩ | h1, _⟩
    · have := lastW_later _ _ hx
      rw [e, hla] at this; cases this
    · exact h1 he
    · exact h1.2 e
  · rw [if_neg he, get_some (made_srt l)]
    refine ⟨?_, rfl⟩
    rw [e2, fold_mem, set_mem _ hm]
    exact Or.inr ⟨Or.inl ⟨he, rfl⟩, hla⟩
/-- One more message, and then it is taken away. -/
theorem set_gone {L : List Ms} {m : Ms} (h : Srt kB L) (hm : mayB m = true) : setM (setM L m) (m.1, [], m.2.2.1, m.2.2.2) = delM L m.1 := by
  have hm2 : mayB (m.1, [], m.2.2.1, m.2.2.2) = true := hm
  refine srt_same _ _ (set_srt _ (set_srt m h)) (del_srt _ h) fun x => ?_
  rw [set_mem x hm2, set_mem x hm, del_mem]
  constructor
  · rintro (h1 | ⟨h1 | h1, h2⟩)
    · exact absurd rfl h1.1
    · rw [h1.2] at h2; exact absurd rfl h2
    · exact h1
  · exact fun h1 => Or.inr ⟨Or.inr h1, h1.2⟩
end Go.Proofs.YthhadjnffeadfaaGreatDoor
