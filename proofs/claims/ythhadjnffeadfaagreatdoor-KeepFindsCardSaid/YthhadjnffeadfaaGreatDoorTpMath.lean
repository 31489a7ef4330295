/-
  topic: levels, names, filters, covering, as plain functions on lists of bytes.
-/
import Derived.Test.YthhadjnffeadfaaGreatDoorPkFacts
import Derived.Lib.Join
set_option linter.unusedSimpArgs false
set_option linter.unusedVariables false
namespace Go.Proofs.YthhadjnffeadfaaGreatDoor
open Go

/-- The levels of a text. -/
def levs : List UInt8 → List (List UInt8)
  | [] => [[]]
  | c :: l => if c = 47 then [] :: levs l else ((levs l).headD []).cons c :: (levs l).tail
theorem levs_ne (l : List UInt8) : levs l ≠ [] := by
  cases l with
  | nil => simp [levs]
  | cons c l => rw [levs]; split <;> simp
theorem levs_cons (l : List UInt8) : levs l = (levs l).headD [] :: (levs l).tail := by
  have := levs_ne l
  cases h : levs l with
  | nil => exact absurd h this
  | cons x r => rfl
theorem levs_slash (l : List UInt8) : levs (47 :: l) = [] :: levs l := by rw [levs, if_pos rfl]
theorem levs_other (c : UInt8) (l : List UInt8) (h : c ≠ 47) : levs (c :: l) = ((levs l).headD []).cons c :: (levs l).tail := by rw [levs, if_neg h]
theorem levs_pos (l : List UInt8) : 0 < (levs l).length := List.length_pos_iff.2 (levs_ne l)
theorem levs_len (l : List UInt8) : (levs l).length ≤ l.length + 1 := by
  induction l with
  | nil => simp [levs]
  | cons c l ih =>
    by_cases h : c = 47
    · subst h; rw [levs_slash]; simp; omega
    · rw [levs_other c l h]
      have := levs_pos l
      simp; omega
theorem levs_mem (l : List UInt8) : ∀ x ∈ levs l, (47 : UInt8) ∉ x := by
  induction l with
  | nil => simp [levs]
  | cons c l ih =>
    intro x hx
    by_cases h : c = 47
    · subst h; rw [levs_slash] at hx
      rcases List.mem_cons.1 hx with rfl | hx
      · simp
      · exact ih x hx
    · rw [levs_other c l h] at hx
      rcases List.mem_cons.1 hx with rfl | hx
      · have := ih ((levs l).headD []) (by rw [levs_cons l]; simp)
        simp only [List.mem_cons, not_or]
        exact ⟨fun e => h e.symm, this⟩
      · exact ih x (by rw [levs_cons l]; exact List.mem_cons_of_mem _ hx)
theorem levs_app (a b : List UInt8) : levs (a ++ 47 :: b) = levs a ++ levs b := by
  induction a with
  | nil => rw [List.nil_append, levs_slash]; rfl
  | cons c a ih =>
    by_cases h : c = 47
    · subst h; rw [List.cons_append, levs_slash, ih, levs_slash]; rfl
    · rw [List.cons_append, levs_other _ _ h, ih, levs_other _ _ h]
      have := levs_cons a
      rw [this]; rfl
theorem levs_plain (l : List UInt8) (h : (47 : UInt8) ∉ l) : levs l = [l] := by
  induction l with
  | nil => rfl
  | cons c l ih =>
    simp only [List.mem_cons, not_or] at h
    rw [levs_other c l (fun e => h.1 e.symm), ih h.2]; rfl
theorem levs_one (l : List UInt8) (h : (levs l).length = 1) : levs l = [l] := by
  apply levs_plain
  induction l with
  | nil => simp
  | cons c l ih =>
    by_cases hc : c = 47
    · subst hc; rw [levs_slash] at h; simp at h; exact absurd h (levs_ne l)
    · rw [levs_other c l hc] at h
      have := levs_pos l
      simp only [List.mem_cons, not_or]
      exact ⟨fun e => hc e.symm, ih (by simp at h; omega)⟩
/-- Levels with slashes between. -/
def joinL (xs : List (List UInt8)) : List UInt8 := Lib.join xs [47]
theorem joinL_nil : joinL [] = [] := rfl
theorem joinL_one (x : List UInt8) : joinL [x] = x := Lib.join_one x [47]
theorem joinL_cons (x y : List UInt8) (r : List (List UInt8)) : joinL (x :: y :: r) = x ++ 47 :: joinL (y :: r) := by
  unfold joinL
  rw [Lib.join_cons, Lib.join_cons]
  simp [Lib.joinTail]
theorem join_levs (l : List UInt8) : joinL (levs l) = l := by
  induction l with
  | nil => rfl
  | cons c l ih =>
    by_cases h : c = 47
    · subst h
      rw [levs_slash]
      rw [levs_cons l] at ih ⊢
      rw [joinL_cons, ih]; rfl
    · rw [levs_other c l h]
      rw [levs_cons l] at ih
      cases ht : (levs l).tail with
      | nil => rw [ht, joinL_one] at ih; rw [joinL_one, ih]
      | cons y r => rw [ht, joinL_cons] at ih; rw [joinL_cons, List.cons_append, ih]
theorem levs_inj {a b : List UInt8} (h : levs a = levs b) : a = b := by rw [← join_levs a, ← join_levs b, h]
theorem levs_join (xs : List (List UInt8)) (h : xs ≠ []) (hm : ∀ x ∈ xs, (47 : UInt8) ∉ x) : levs (joinL xs) = xs := by
  induction xs with
  | nil => exact absurd rfl h
  | cons x r ih =>
    cases r with
    | nil => rw [joinL_one, levs_plain x (hm x (by simp))]
    | cons y r => rw [joinL_cons, levs_app, levs_plain x (hm x (by simp)), ih (by simp) (fun z hz => hm z (by simp [hz]))]; rfl
theorem levs_snoc_slash (l : List UInt8) : levs (l ++ [47]) = levs l ++ [[]] := levs_app l []
theorem levs_snoc (l : List UInt8) (c : UInt8) (h : c ≠ 47) : levs (l ++ [c]) = (levs l).dropLast ++ [(levs l).getLast (levs_ne l) ++ [c]] := by
  induction l with
  | nil => rw [List.nil_append, levs_other c [] h]; rfl
  | cons d l ih =>
    rw [List.cons_append]
    by_cases hd : d = 47
    · subst hd
      rw [levs_slash, ih]
      simp only [levs_slash]
      rw [List.dropLast_cons_of_ne_nil (levs_ne l), List.getLast_cons (levs_ne l)]; rfl
    · rw [levs_other d _ hd, ih]
      simp only [levs_other d l hd]
      have key : ∀ (L : List (List UInt8)) (hL : L ≠ []), ((L.dropLast ++ [L.getLast hL ++ [c]]).headD []).cons d :: (L.dropLast ++ [L.getLast hL ++ [c]]).tail = ((L.headD []).cons d :: L.tail).dropLast ++ [((L.headD []).cons d :: L.tail).getLast (by simp) ++ [c]] := by
        intro L hL
        cases L with
        | nil => exact absurd rfl hL
        | cons x r =>
          cases r with
          | nil => rfl
          | cons y r => rfl
      exact key _ _
theorem levs_head (l : List UInt8) : (levs l).headD [] = l.takeWhile (· != 47) := by
  induction l with
  | nil => rfl
  | cons c l ih =>
    by_cases h : c = 47
    · subst h; rw [levs_slash]; rfl
    · rw [levs_other c l h, List.takeWhile_cons, if_pos (by simpa using h), ← ih]; rfl

theorem levs_split (l : List UInt8) : splitL l = levs l := by
  induction l with
  | nil => rfl
  | cons c l ih =>
    rw [splitL, levs, ih]
    by_cases h : c = 47
    · rw [if_pos h, if_pos h]
    · rw [if_neg h, if_neg h]
      rw [levs_cons l]; rfl
/-- A text without + and #. -/
def plB (s : List UInt8) : Bool := s.all fun c => c != 43 && c != 35
theorem plB_app (a b : List UInt8) : plB (a ++ b) = (plB a && plB b) := by unfold plB; rw [List.all_append]
theorem plB_levs (l : List UInt8) : plB l = (levs l).all plB := by
  induction l with
  | nil => rfl
  | cons c l ih =>
    by_cases h : c = 47
    · subst h
      rw [levs_slash, List.all_cons, ← ih]; rfl
    · rw [levs_other c l h, List.all_cons]
      have hc := levs_cons l
      rw [hc, List.all_cons] at ih
      have e : ∀ x, plB (c :: x) = ((c != 43 && c != 35) && plB x) := fun x => rfl
      rw [e, ih, e]
      simp only [Bool.and_assoc]
theorem pl_has (l : List UInt8) : hasW l = !plB l := by
  induction l with
  | nil => rfl
  | cons c l ih =>
    rw [hasW_cons, ih]
    have : plB (c :: l) = ((c != 43 && c != 35) && plB l) := rfl
    rw [this]
    unfold isW
    cases h1 : c == 43 <;> cases h2 : c == 35 <;> cases plB l <;> simp_all
theorem pl_plus : plB [43] = false := by decide
theorem pl_hash : plB [35] = false := by decide
theorem pl_ne (x : List UInt8) (h : plB x = true) : x ≠ [43] ∧ x ≠ [35] := by
  constructor
  · rintro rfl; rw [pl_plus] at h; cases h
  · rintro rfl; rw [pl_hash] at h; cases h

/-- Do wildcards in levels stand where they may? -/
def fitL : List (List UInt8) → Bool
  | [] => true
  | x :: r => (plB x || x == [43] || (x == [35] && r.isEmpty)) && fitL r
def namB (s : List UInt8) : Bool := !s.isEmpty && valB s && plB s
def filB (s : List UInt8) : Bool := !s.isEmpty && valB s && fitL (levs s)
/-- The first level. -/
def headL (s : List UInt8) : List UInt8 := (levs s).headD []
def wilB (s : List UInt8) : Bool := !plB (headL s)
/-- Does a level that is not # cover another one? -/
def lcB (x y : List UInt8) : Bool := if x = [43] then y != [35] else x == y
def covL : List (List UInt8) → List (List UInt8) → Bool
  | [], y => y.isEmpty
  | x :: r, y => if x = [35] then true else match y with
    | [] => false
    | z :: t => lcB x z && covL r t
def dolB (s : List UInt8) : Bool := s.head? == some 36
def covB (a b : List UInt8) : Bool := filB a && filB b && !(wilB a && dolB b) && covL (levs a) (levs b)
def matB (f n : List UInt8) : Bool := namB n && covB f n

theorem fit_plain (x : List (List UInt8)) (h : x.all plB = true) : fitL x = true := by
  induction x with
  | nil => rfl
  | cons a r ih =>
    rw [List.all_cons, Bool.and_eq_true] at h
    rw [fitL, h.1, ih h.2]; rfl
theorem nam_fil (s : List UInt8) (h : namB s = true) : filB s = true := by
  unfold namB at h; unfold filB
  simp only [Bool.and_eq_true] at h ⊢
  exact ⟨h.1, fit_plain _ (by rw [← plB_levs]; exact h.2)⟩
theorem nam_parts {s : List UInt8} (h : namB s = true) : s ≠ [] ∧ valB s = true ∧ plB s = true := by
  unfold namB at h
  simp only [Bool.and_eq_true, Bool.not_eq_true', List.isEmpty_eq_false_iff] at h
  exact ⟨h.1.1, h.1.2, h.2⟩
theorem fil_parts {s : List UInt8} (h : filB s = true) : s ≠ [] ∧ valB s = true ∧ fitL (levs s) = true := by
  unfold filB at h
  simp only [Bool.and_eq_true, Bool.not_eq_true', List.isEmpty_eq_false_iff] at h
  exact ⟨h.1.1, h.1.2, h.2⟩
theorem fil_mk {s : List UInt8} (h1 : s ≠ []) (h2 : valB s = true) (h3 : fitL (levs s) = true) : filB s = true := by
  unfold filB
  simp only [Bool.and_eq_true, Bool.not_eq_true', List.isEmpty_eq_false_iff]
  exact ⟨⟨h1, h2⟩, h3⟩
theorem nam_mk {s : List UInt8} (h1 : s ≠ []) (h2 : valB s = true) (h3 : plB s = true) : namB s = true := by
  unfold namB
  simp only [Bool.and_eq_true, Bool.not_eq_true', List.isEmpty_eq_false_iff]
  exact ⟨⟨h1, h2⟩, h3⟩
theorem fil_len {s : List UInt8} (h : filB s = true) : s.length ≤ 65535 := by
  obtain ⟨_, h2, _⟩ := fil_parts h
  obtain ⟨_, _, _, h4⟩ := valB_some s h2
  exact h4

theorem cov_nil (y : List (List UInt8)) : covL [] y = y.isEmpty := by rw [covL.eq_def]
theorem cov_hash (r y : List (List UInt8)) : covL ([35] :: r) y = true := by rw [covL.eq_def]; simp
theorem cov_end (a : List UInt8) (r : List (List UInt8)) (h : a ≠ [35]) : covL (a :: r) [] = false := by rw [covL.eq_def]; simp [h]
theorem cov_cons (a b : List UInt8) (r t : List (List UInt8)) (h : a ≠ [35]) : covL (a :: r) (b :: t) = (lcB a b && covL r t) := by
  rw [covL.eq_def]; simp only [if_neg h]
theorem lc_refl (a : List UInt8) (h : a ≠ [35]) : lcB a a = true := by
  unfold lcB
  split
  · rename_i h1; subst h1; decide
  · simp
theorem lc_ne (a b : List UInt8) (h : a ≠ [35]) (hl : lcB a b = true) : b ≠ [35] := by
  rintro rfl
  unfold lcB at hl
  split at hl
  · simp at hl
  · exact h (by simpa using hl)
theorem cov_refl (x : List (List UInt8)) : covL x x = true := by
  induction x with
  | nil => rfl
  | cons a r ih =>
    by_cases h : a = [35]
    · subst h; exact cov_hash _ _
    · rw [cov_cons a a r r h, ih, lc_refl a h]; rfl
theorem lc_trans (a b c : List UInt8) (ha : a ≠ [35]) (h1 : lcB a b = true) (h2 : lcB b c = true) : lcB a c = true := by
  have hb := lc_ne a b ha h1
  have hc := lc_ne b c hb h2
  unfold lcB at h1 h2 ⊢
  split
  · simpa using hc
  · rename_i h5
    rw [if_neg h5] at h1
    have : a = b := by simpa using h1
    subst this
    rw [if_neg h5] at h2
    exact h2
theorem cov_trans : ∀ (x y z : List (List UInt8)), covL x y = true → covL y z = true → covL x z = true
  | [], y, z, h1, h2 => by
    rw [cov_nil, List.isEmpty_iff] at h1
    subst h1; exact h2
  | a :: r, y, z, h1, h2 => by
    by_cases ha : a = [35]
    · subst ha; exact cov_hash _ _
    · cases y with
      | nil => rw [cov_end a r ha] at h1; cases h1
      | cons b t =>
        rw [cov_cons a b r t ha, Bool.and_eq_true] at h1
        have hb := lc_ne a b ha h1.1
        cases z with
        | nil => rw [cov_end b t hb] at h2; cases h2
        | cons c u =>
          rw [cov_cons b c t u hb, Bool.and_eq_true] at h2
          rw [cov_cons a c r u ha, Bool.and_eq_true]
          exact ⟨lc_trans a b c ha h1.1 h2.1, cov_trans r t u h1.2 h2.2⟩
theorem cov_plain : ∀ (x y : List (List UInt8)), x.all plB = true → covL x y = (x == y)
  | [], y, _ => by rw [cov_nil]; cases y <;> rfl
  | a :: r, y, h => by
    rw [List.all_cons, Bool.and_eq_true] at h
    have hn := pl_ne a h.1
    cases y with
    | nil => rw [cov_end a r hn.2]; rfl
    | cons b t =>
      rw [cov_cons a b r t hn.2, cov_plain r t h.2]
      unfold lcB
      rw [if_neg hn.1]
      rfl

theorem fit_head (s : List UInt8) (h : filB s = true) : wilB s = (headL s == [43] || headL s == [35]) := by
  obtain ⟨h1, h2, h3⟩ := fil_parts h
  rw [levs_cons s, fitL] at h3
  simp only [Bool.and_eq_true, Bool.or_eq_true] at h3
  unfold wilB
  show (!plB (headL s)) = _
  have h4 := h3.1
  change (plB (headL s) = true ∨ (headL s == [43]) = true) ∨ (headL s == [35]) = true ∧ _ at h4
  by_cases hp : plB (headL s) = true
  · have := pl_ne _ hp
    rw [hp]; simp [this.1, this.2]
  · have : plB (headL s) = false := by simpa using hp
    rw [this]
    rcases h4 with (h4 | h4) | h4
    · exact absurd h4 hp
    · simp at h4; simp [h4]
    · simp at h4; simp [h4.1]
theorem head_first (s : List UInt8) : s.head? = (if (headL s).head? = none then (if s = [] then none else some 47) else (headL s).head?) := by
  unfold headL
  cases s with
  | nil => rfl
  | cons c l =>
    by_cases h : c = 47
    · subst h; rw [levs_slash]; rfl
    · rw [levs_other c l h]; rfl
theorem dol_head (a b : List UInt8) (h : headL a = headL b) : dolB a = dolB b := by
  unfold dolB
  rw [head_first a, head_first b, h]
  cases (headL b).head? with
  | some v => rfl
  | none =>
    by_cases h1 : a = [] <;> by_cases h2 : b = [] <;> simp [h1, h2]
theorem wil_dol (a : List UInt8) (h : filB a = true) (hd : dolB a = true) : wilB a = false := by
  rw [fit_head a h]
  unfold dolB at hd
  rw [head_first a] at hd
  cases hh : (headL a).head? with
  | none =>
    rw [hh] at hd
    simp only [ite_true] at hd
    split at hd <;> simp at hd
  | some v =>
    rw [hh] at hd
    simp at hd
    subst hd
    have h1 : headL a ≠ [43] := by intro e; rw [e] at hh; simp at hh
    have h2 : headL a ≠ [35] := by intro e; rw [e] at hh; simp at hh
    simp [h1, h2]

theorem covB_parts {a b : List UInt8} (h : covB a b = true) : filB a = true ∧ filB b = true ∧ (wilB a && dolB b) = false ∧ covL (levs a) (levs b) = true := by
  unfold covB at h
  simp only [Bool.and_eq_true, Bool.not_eq_true'] at h
  exact ⟨h.1.1.1, h.1.1.2, h.1.2, h.2⟩
theorem covB_mk {a b : List UInt8} (h1 : filB a = true) (h2 : filB b = true) (h3 : (wilB a && dolB b) = false) (h4 : covL (levs a) (levs b) = true) : covB a b = true := by
  unfold covB; rw [h1, h2, h3, h4]; rfl
theorem covB_refl (a : List UInt8) : covB a a = filB a := by
  cases h : filB a with
  | false => unfold covB; rw [h]; rfl
  | true =>
    refine covB_mk h h ?_ (cov_refl _)
    cases hd : dolB a with
    | false => simp
    | true => rw [wil_dol a h hd]; rfl
theorem covB_trans (a b c : List UInt8) (h1 : covB a b = true) (h2 : covB b c = true) : covB a c = true := by
  obtain ⟨a1, a2, a3, a4⟩ := covB_parts h1
  obtain ⟨b1, b2, b3, b4⟩ := covB_parts h2
  refine covB_mk a1 b2 ?_ (cov_trans _ _ _ a4 b4)
  cases hw : wilB a with
  | false => rfl
  | true =>
    cases hd : dolB c with
    | false => rfl
    | true =>
      exfalso
      rw [hd, Bool.and_true] at b3
      rw [hw, Bool.true_and] at a3
      have hb : headL b = headL c := by
        unfold wilB at b3
        have hp : plB (headL b) = true := by simpa using b3
        have hn := pl_ne _ hp
        have b5 : covL (headL b :: (levs b).tail) (headL c :: (levs c).tail) = true := by rw [levs_cons b, levs_cons c] at b4; exact b4
        rw [cov_cons _ _ _ _ hn.2, Bool.and_eq_true] at b5
        have := b5.1
        unfold lcB at this
        rw [if_neg hn.1] at this
        exact beq_iff_eq.1 this
      rw [dol_head b c hb, hd] at a3
      cases a3
theorem covB_name (a b : List UInt8) (h : namB a = true) : covB a b = (a == b) := by
  have hf := nam_fil a h
  obtain ⟨n1, n2, n3⟩ := nam_parts h
  rw [plB_levs] at n3
  by_cases e : a = b
  · subst e; rw [covB_refl, hf]; simp
  · have h1 : (a == b) = false := by simpa using e
    rw [h1]
    unfold covB
    rw [cov_plain _ _ n3]
    have h2 : (levs a == levs b) = false := by
      simp only [beq_eq_false_iff_ne]
      intro h; exact e (levs_inj h)
    rw [h2, Bool.and_false]

theorem fit_cons (x : List UInt8) (r : List (List UInt8)) : fitL (x :: r) = ((plB x || x == [43] || (x == [35] && r.isEmpty)) && fitL r) := rfl
theorem fit_drop (xs : List (List UInt8)) (k : Nat) (x : List UInt8) (hx : xs[k]? = some x) : fitL (xs.drop k) = ((plB x || x == [43] || (x == [35] && decide (k + 1 = xs.length))) && fitL (xs.drop (k + 1))) := by
  obtain ⟨h1, h2⟩ := List.getElem?_eq_some_iff.1 hx
  rw [List.drop_eq_getElem_cons h1, h2, fit_cons]
  congr 3
  rw [Bool.eq_iff_iff, List.isEmpty_iff, decide_eq_true_eq, List.drop_eq_nil_iff]
  omega
theorem cov_dropx (A B : List (List UInt8)) (i : Nat) (x : List UInt8) (hx : A[i]? = some x) (h : x = [35]) : covL (A.drop i) (B.drop i) = true := by
  obtain ⟨h1, h2⟩ := List.getElem?_eq_some_iff.1 hx
  rw [List.drop_eq_getElem_cons h1, h2, h, cov_hash]
theorem cov_dropa (A B : List (List UInt8)) (i : Nat) (hi : A.length ≤ i) : covL (A.drop i) (B.drop i) = decide (B.length ≤ i) := by
  rw [List.drop_eq_nil_of_le hi, cov_nil, Bool.eq_iff_iff, List.isEmpty_iff, decide_eq_true_eq, List.drop_eq_nil_iff]
theorem cov_dropb (A B : List (List UInt8)) (i : Nat) (x : List UInt8) (hx : A[i]? = some x) (h : x ≠ [35]) (hi : B.length ≤ i) : covL (A.drop i) (B.drop i) = false := by
  obtain ⟨h1, h2⟩ := List.getElem?_eq_some_iff.1 hx
  rw [List.drop_eq_getElem_cons h1, h2, List.drop_eq_nil_of_le hi, cov_end _ _ h]
theorem cov_dropc (A B : List (List UInt8)) (i : Nat) (x y : List UInt8) (hx : A[i]? = some x) (h : x ≠ [35]) (hy : B[i]? = some y) : covL (A.drop i) (B.drop i) = (lcB x y && covL (A.drop (i + 1)) (B.drop (i + 1))) := by
  obtain ⟨h1, h2⟩ := List.getElem?_eq_some_iff.1 hx
  obtain ⟨h3, h4⟩ := List.getElem?_eq_some_iff.1 hy
  rw [List.drop_eq_getElem_cons h1, h2, List.drop_eq_getElem_cons h3, h4, cov_cons _ _ _ _ h]
theorem lc_43 (y : List UInt8) : lcB [43] y = (y != [35]) := rfl
theorem lc_other (x y : List UInt8) (h : (x == [43]) = false) : lcB x y = (x == y) := by
  unfold lcB; rw [if_neg (by simpa using h)]
/-- Levels without #. -/
def noH (x : List (List UInt8)) : Bool := x.all fun a => plB a || a == [43]
theorem noH_fit (x : List (List UInt8)) (h : noH x = true) : fitL x = true := by
  induction x with
  | nil => rfl
  | cons a r ih =>
    unfold noH at h
    rw [List.all_cons, Bool.and_eq_true] at h
    rw [fit_cons, h.1, ih h.2]; rfl
theorem noH_ne {a : List UInt8} (h : (plB a || a == [43]) = true) : a ≠ [35] := by
  rintro rfl; revert h; decide
theorem fit_noH : ∀ (x : List (List UInt8)) (hne : x ≠ []), fitL x = true → x.getLast hne ≠ [35] → noH x = true
  | [], hne, _, _ => absurd rfl hne
  | [a], _, h, hl => by
    rw [fit_cons, Bool.and_eq_true] at h
    have h1 : a ≠ [35] := hl
    have h2 := h.1
    unfold noH
    rw [List.all_cons]
    rw [show (a == [35]) = false from beq_eq_false_iff_ne.2 h1, Bool.false_and, Bool.or_false] at h2
    rw [h2]; rfl
  | a :: b :: r, _, h, hl => by
    rw [fit_cons, Bool.and_eq_true] at h
    have h2 := h.1
    rw [show (b :: r).isEmpty = false from rfl, Bool.and_false, Bool.or_false] at h2
    have ih := fit_noH (b :: r) (by simp) h.2 (by rw [List.getLast_cons (by simp)] at hl; exact hl)
    unfold noH at ih ⊢
    rw [List.all_cons, h2, ih]; rfl
theorem fit_app (x y : List (List UInt8)) (h : noH x = true) : fitL (x ++ y) = fitL y := by
  induction x with
  | nil => rfl
  | cons a r ih =>
    unfold noH at h
    rw [List.all_cons, Bool.and_eq_true] at h
    have hx := noH_ne h.1
    rw [List.cons_append, fit_cons, ih h.2, show (a == [35]) = false from beq_eq_false_iff_ne.2 hx, Bool.false_and, Bool.or_false, h.1, Bool.true_and]
theorem cov_last : ∀ (x y z : List (List UInt8)) (hne : x ≠ []), x.getLast hne = [35] → covL x y = true → covL x (y ++ z) = true
  | [], _, _, hne, _, _ => absurd rfl hne
  | a :: r, y, z, _, hl, h => by
    by_cases ha : a = [35]
    · subst ha; exact cov_hash _ _
    · cases y with
      | nil => rw [cov_end a r ha] at h; cases h
      | cons b t =>
        rw [cov_cons a b r t ha, Bool.and_eq_true] at h
        rw [List.cons_append, cov_cons a b r (t ++ z) ha, h.1, Bool.true_and]
        by_cases hr : r = []
        · subst hr; exact absurd hl ha
        · exact cov_last r t z hr (by rw [List.getLast_cons hr] at hl; exact hl) h.2
theorem cov_both : ∀ (x y u v : List (List UInt8)), noH x = true → covL x y = true → covL (x ++ u) (y ++ v) = covL u v
  | [], y, u, v, _, h => by
    rw [cov_nil, List.isEmpty_iff] at h
    subst h; rfl
  | a :: r, y, u, v, hn, h => by
    unfold noH at hn
    rw [List.all_cons, Bool.and_eq_true] at hn
    have ha := noH_ne hn.1
    cases y with
    | nil => rw [cov_end a r ha] at h; cases h
    | cons b t =>
      rw [cov_cons a b r t ha, Bool.and_eq_true] at h
      rw [List.cons_append, List.cons_append, cov_cons a b _ _ ha, h.1, Bool.true_and]
      exact cov_both r t u v hn.2 h.2
theorem val_app (a n m : List UInt8) (ha : valB a = true) (h1 : valB n = true) (h2 : valB (n ++ m) = true) (hl : (a ++ m).length ≤ 65535) : valB (a ++ m) = true := by
  obtain ⟨i, hi, _, _⟩ := valB_some a ha
  obtain ⟨k, hk, _, _⟩ := valB_some _ h2
  obtain ⟨j, hj, _, _⟩ := valB_some n h1
  have hm : ∃ q, cntT m = some q := by
    rcases piecesT n m k hk with ⟨_, q, _, hq, _⟩ | ⟨hq, _⟩
    · exact ⟨q, hq⟩
    · rw [hj] at hq; cases hq
  obtain ⟨q, hq⟩ := hm
  have := sumT a m i q hi hq
  unfold valB cntR cntI
  rw [if_neg (by omega), this]
  simp; omega
theorem val_slash (a : List UInt8) (c : UInt8) (ha : valB a = true) (h : c.toNat < 128) (h0 : c.toNat ≠ 0) (hl : a.length + 2 ≤ 65535) : valB (a ++ [47, c]) = true := by
  obtain ⟨i, hi, _, _⟩ := valB_some a ha
  have h1 := cntT_rep 47 (by decide) (by decide) 1
  have h2 := cntT_rep c h h0 1
  have := sumT a _ i _ hi (sumT _ _ 1 1 h1 h2)
  unfold valB cntR cntI
  rw [if_neg (by simp; omega), show a ++ [47, c] = a ++ (List.replicate 1 47 ++ List.replicate 1 c) from rfl, this]
  simp; omega
theorem wil_app (a m : List UInt8) : wilB (a ++ 47 :: m) = wilB a := by
  unfold wilB headL
  rw [levs_app, levs_cons a]; rfl
theorem dol_app (a m : List UInt8) (h : a ≠ []) : dolB (a ++ m) = dolB a := by
  cases a with
  | nil => exact absurd rfl h
  | cons c l => rfl
theorem matB_parts {a n : List UInt8} (h : matB a n = true) : namB n = true ∧ covB a n = true := by
  unfold matB at h
  simpa using h
/-- What follows of a filter that takes a name, and of a level more. -/
theorem tl_last (a n m : List UInt8) (h : matB a n = true) (hm : namB (n ++ 47 :: m) = true) (hl : (levs a).getLast (levs_ne a) = [35]) : matB a (n ++ 47 :: m) = true := by
  obtain ⟨h1, h2⟩ := matB_parts h
  obtain ⟨c1, c2, c3, c4⟩ := covB_parts h2
  unfold matB
  rw [hm, Bool.true_and]
  refine covB_mk c1 (nam_fil _ hm) ?_ ?_
  · rw [dol_app n _ (nam_parts h1).1]; exact c3
  · rw [levs_app]; exact cov_last _ _ _ (levs_ne a) hl c4
theorem tl_more (a n m x : List UInt8) (h : matB a n = true) (hm : namB (n ++ 47 :: m) = true) (hl : (levs a).getLast (levs_ne a) ≠ [35]) (hv : valB (a ++ 47 :: x) = true) (hx : fitL (levs x) = true) (v : List UInt8) (hv2 : namB (n ++ v) = true) (w : List (List UInt8)) (hw : levs (n ++ v) = levs n ++ w) (hc : covL (levs x) w = true) : matB (a ++ 47 :: x) (n ++ v) = true := by
  obtain ⟨h1, h2⟩ := matB_parts h
  obtain ⟨c1, c2, c3, c4⟩ := covB_parts h2
  obtain ⟨f1, f2, f3⟩ := fil_parts c1
  have hn := fit_noH _ (levs_ne a) f3 hl
  unfold matB
  rw [hv2, Bool.true_and]
  refine covB_mk (fil_mk (by simp) hv (by rw [levs_app, fit_app _ _ hn]; exact hx)) (nam_fil _ hv2) ?_ ?_
  · rw [wil_app, dol_app n _ (nam_parts h1).1]; exact c3
  · rw [levs_app, hw, cov_both _ _ _ _ hn c4]; exact hc
theorem tl_not (a n m : List UInt8) (h : matB a n = true) (hl : (levs a).getLast (levs_ne a) ≠ [35]) : matB a (n ++ 47 :: m) = false := by
  obtain ⟨h1, h2⟩ := matB_parts h
  obtain ⟨c1, c2, c3, c4⟩ := covB_parts h2
  obtain ⟨f1, f2, f3⟩ := fil_parts c1
  have hn := fit_noH _ (levs_ne a) f3 hl
  unfold matB covB
  have h5 := cov_both (levs a) (levs n) [] (levs m) hn c4
  rw [List.append_nil] at h5
  rw [levs_app, h5, cov_nil]
  have : (levs m).isEmpty = false := by rw [levs_cons m]; rfl
  rw [this]; simp
theorem pl_app {n m : List UInt8} (h : namB (n ++ 47 :: m) = true) : plB m = true := by
  have h3 := (nam_parts h).2.2
  rw [plB_app, Bool.and_eq_true] at h3
  have h4 := h3.2
  unfold plB at h4 ⊢
  rw [List.all_cons, Bool.and_eq_true] at h4
  exact h4.2
end Go.Proofs.YthhadjnffeadfaaGreatDoor
