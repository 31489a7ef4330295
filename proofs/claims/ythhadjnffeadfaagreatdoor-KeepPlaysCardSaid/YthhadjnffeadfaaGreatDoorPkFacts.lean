/-
  Packets: the plain mathematics: names, filters, what a type's fields are.
-/
import Derived.Test.YthhadjnffeadfaaGreatDoorTextFacts
import Derived.Lib.IndexAny
import Derived.Lib.SplitLaws
set_option linter.unusedSimpArgs false
set_option linter.unusedVariables false
namespace Go.Proofs.YthhadjnffeadfaaGreatDoor

def isW (b : UInt8) : Bool := b == 43 || b == 35
def hasW (l : List UInt8) : Bool := l.any isW
theorem hasW_nil : hasW [] = false := rfl
theorem hasW_cons (b : UInt8) (l : List UInt8) : hasW (b :: l) = (isW b || hasW l) := rfl
theorem hasW_app (a b : List UInt8) : hasW (a ++ b) = (hasW a || hasW b) := by unfold hasW; simp
def nmB (l : List UInt8) : Bool := !l.isEmpty && (valB l && !hasW l)
def lvB (l : List UInt8) : Bool := l == [43] || !hasW l
def splitL : List UInt8 → List (List UInt8)
  | [] => [[]]
  | c :: r => if c = 47 then [] :: splitL r else match splitL r with
    | [] => [[c]]
    | h :: t => (c :: h) :: t
def levB : List (List UInt8) → Bool
  | [] => false
  | [x] => x == [35] || lvB x
  | x :: y :: t => lvB x && levB (y :: t)
def flB (l : List UInt8) : Bool := !l.isEmpty && (valB l && levB (splitL l))

theorem splitL_ne (l : List UInt8) : ∃ h t, splitL l = h :: t := by
  cases l with
  | nil => exact ⟨[], [], rfl⟩
  | cons c r =>
    by_cases hc : c = 47
    · exact ⟨[], splitL r, by rw [splitL, if_pos hc]⟩
    · rw [splitL, if_neg hc]
      cases splitL r with
      | nil => exact ⟨_, _, rfl⟩
      | cons h t => exact ⟨_, _, rfl⟩
/-- The filter by place: st: does a level begin here? -/
def scanB : Bool → List UInt8 → Bool
  | _, [] => true
  | st, c :: r => (!isW c || (st && (r.isEmpty || (c == 43 && r.head? == some 47)))) && scanB (c == 47) r
/-- What follows in a level that has begun. -/
def goB : List (List UInt8) → Bool
  | [] => false
  | [h] => !hasW h
  | h :: y :: t => !hasW h && levB (y :: t)
theorem splitL_empty (r : List UInt8) (h : List UInt8) (t : List (List UInt8)) (e : splitL r = h :: t) : (h = [] ↔ (r = [] ∨ r.head? = some 47)) ∧ (r = [] → t = []) ∧ (t = [] ∧ h = [] → r = []) := by
  cases r with
  | nil => cases e; simp
  | cons c r =>
    by_cases hc : c = 47
    · rw [splitL, if_pos hc] at e
      injection e with e1 e2
      subst e1
      obtain ⟨h', t', e'⟩ := splitL_ne r
      rw [e'] at e2
      subst e2 hc
      simp
    · rw [splitL, if_neg hc] at e
      obtain ⟨h', t', e'⟩ := splitL_ne r
      rw [e'] at e
      injection e with e1 e2
      subst e1
      simp [hc]
theorem scan_lev (l : List UInt8) : scanB true l = levB (splitL l) ∧ scanB false l = goB (splitL l) := by
  induction l with
  | nil => exact ⟨rfl, rfl⟩
  | cons c r ih =>
    obtain ⟨h, t, e⟩ := splitL_ne r
    obtain ⟨k1, k2, k3⟩ := splitL_empty r h t e
    rw [e] at ih
    by_cases hc : c = 47
    · subst hc
      rw [splitL, if_pos rfl, e]
      have e1 : scanB true r = levB (h :: t) := ih.1
      have e2 : ((47 : UInt8) == 47) = true := rfl
      simp only [scanB, levB, goB, isW, lvB, hasW_nil, e2, e1]
      simp
    · have hc' : (c == 47) = false := by simpa using hc
      rw [splitL, if_neg hc, e]
      simp only [scanB, hc', ih.2]
      by_cases h1 : c = 43
      · subst h1
        have k1' : (r.isEmpty || r.head? == some 47) = (h == []) := by
          rw [Bool.eq_iff_iff]; simp [k1]
        cases t with
        | nil =>
          simp only [levB, goB, lvB, hasW_cons, isW]
          cases h with
          | nil => simp [k1', hasW]
          | cons a h =>
            have : ¬ (r = [] ∨ r.head? = some 47) := fun x => by have := k1.2 x; cases this
            simp at this
            simp [this]
        | cons y t =>
          simp only [levB, goB, lvB, hasW_cons, isW]
          cases h with
          | nil => simp [hasW]; have := k1.1 rfl; intro _; simpa using this
          | cons a h =>
            have : ¬ (r = [] ∨ r.head? = some 47) := fun x => by have := k1.2 x; cases this
            simp at this
            simp [this]
      · by_cases h2 : c = 35
        · subst h2
          cases t with
          | nil =>
            cases h with
            | nil =>
              have := k3 ⟨rfl, rfl⟩
              subst this
              simp [levB, goB, lvB, hasW, isW]
            | cons a h =>
              have : r ≠ [] := fun x => by have := k1.2 (Or.inl x); cases this
              simp [levB, goB, lvB, hasW_cons, isW, this]
          | cons y t =>
            have : r ≠ [] := fun x => by have := k2 x; cases this
            simp [levB, goB, lvB, hasW_cons, isW, this]
        · have hw : isW c = false := by simp [isW, h1, h2]
          have h1' : (c == 43) = false := by simpa using h1
          have h2' : (c == 35) = false := by simpa using h2
          cases t with
          | nil => simp [levB, goB, lvB, hasW_cons, hw, h1', h2']
          | cons y t => simp [levB, goB, lvB, hasW_cons, hw, h1', h2']
end Go.Proofs.YthhadjnffeadfaaGreatDoor
