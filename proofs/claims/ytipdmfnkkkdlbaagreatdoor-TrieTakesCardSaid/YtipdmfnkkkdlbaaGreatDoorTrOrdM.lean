/-
  TrieOrder, plain: hints added in a row that is turned, removed in a row that is turned.
-/
import Derived.Test.YtipdmfnkkkdlbaaGreatDoorTrMade
set_option linter.unusedSimpArgs false
set_option linter.unusedVariables false
namespace Go.Proofs.YtipdmfnkkkdlbaaGreatDoor
open Go.RowKit

theorem nodup_inj {α : Type} {R : List α} (hR : R.Nodup) {i j : Nat} {hi : i < R.length} {hj : j < R.length} (e : R[i] = R[j]) : i = j := by
  have h := List.pairwise_iff_getElem.1 hR
  rcases Nat.lt_trichotomy i j with h1 | h1 | h1
  · exact absurd e (h i j hi hj h1)
  · exact h1
  · exact absurd e.symm (h j i hj hi h1)
theorem act_fil (L : List Hn) (x : Ac) (h : ∀ y ∈ L, filB y.1 = true) : ∀ y ∈ actL L x, filB y.1 = true := by
  intro y hy
  unfold actL at hy
  split at hy
  · unfold addL at hy
    split at hy
    · next hb =>
      rcases (ins_mem _ y L).1 hy with rfl | hy
      · unfold addB at hb; simp at hb; exact hb.1
      · exact h y hy
    · exact h y hy
  · split at hy
    · exact h y (List.mem_filter.1 hy).1
    · exact h y hy
theorem made_fil (l : List Ac) : ∀ y ∈ madeL l, filB y.1 = true := by
  refine snoc_ind (P := fun l => ∀ y ∈ madeL l, filB y.1 = true) (fun y hy => by cases hy) (fun l x ih => ?_) l
  have : madeL (l ++ [x]) = actL (madeL l) x := by unfold madeL; rw [List.foldl_append]; rfl
  rw [this]
  exact act_fil _ x ih
/-- The row turned by a. -/
def rotL (L : List Hn) (a : Nat) : List Hn := L.drop (a % L.length) ++ L.take (a % L.length)
theorem rot_perm (L : List Hn) (a : Nat) : (rotL L a).Perm L := by
  unfold rotL
  have := List.perm_append_comm (l₁ := L.drop (a % L.length)) (l₂ := L.take (a % L.length))
  rwa [List.take_append_drop] at this
theorem rot_len (L : List Hn) (a : Nat) : (rotL L a).length = L.length := (rot_perm L a).length_eq
theorem rot_mem (L : List Hn) (a : Nat) (x : Hn) : x ∈ rotL L a ↔ x ∈ L := (rot_perm L a).mem_iff
theorem rot_at (L : List Hn) (a i : Nat) (hi : i < L.length) : (rotL L a)[i]? = L[(i + a) % L.length]? := by
  have hN : 0 < L.length := by omega
  have ha : a % L.length < L.length := Nat.mod_lt _ hN
  have e : (i + a) % L.length = (i + a % L.length) % L.length := by rw [Nat.add_mod, Nat.mod_eq_of_lt hi]
  rw [e]
  unfold rotL
  generalize a % L.length = b at ha
  have hd : (L.drop b).length = L.length - b := List.length_drop
  by_cases h : i + b < L.length
  · rw [Nat.mod_eq_of_lt h, List.getElem?_append_left (by omega), List.getElem?_drop, Nat.add_comm]
  · have h2 : (i + b) % L.length = i + b - L.length := by
      rw [Nat.mod_eq_sub_mod (by omega), Nat.mod_eq_of_lt (by omega)]
    rw [h2, List.getElem?_append_right (by omega), hd, List.getElem?_take, if_pos (by omega)]
    congr 1; omega
/-- What was put in so far; what is left so far. -/
def inL (R : List Hn) (i : Nat) : List Hn := (R.take i).foldl (fun U h => insO ahB h U) []
def outL (L R : List Hn) (i : Nat) : List Hn := (R.take i).foldl remL L
theorem in_step (R : List Hn) (i : Nat) (h : Hn) (hh : R[i]? = some h) : inL R (i + 1) = insO ahB h (inL R i) := by
  unfold inL
  rw [List.take_add_one, hh, Option.toList_some, List.foldl_append]; rfl
theorem out_step (L R : List Hn) (i : Nat) (h : Hn) (hh : R[i]? = some h) : outL L R (i + 1) = remL (outL L R i) h := by
  unfold outL
  rw [List.take_add_one, hh, Option.toList_some, List.foldl_append]; rfl
theorem in_facts (R : List Hn) (hR : R.Nodup) : ∀ i, i ≤ R.length → Srt ahB (inL R i) ∧ (inL R i).length = i ∧ ∀ x, x ∈ inL R i ↔ x ∈ R.take i := by
  intro i
  induction i with
  | zero => intro _; exact ⟨by unfold inL; rw [List.take_zero]; exact List.Pairwise.nil, by unfold inL; rw [List.take_zero]; rfl, fun x => by unfold inL; rw [List.take_zero]; rfl⟩
  | succ i ih =>
    intro hi
    obtain ⟨h1, h2, h3⟩ := ih (by omega)
    have hh : R[i]? = some R[i] := List.getElem?_eq_getElem (by omega)
    have hn : R[i] ∉ inL R i := by
      rw [h3]
      intro hm
      obtain ⟨j, hj, e⟩ := List.mem_iff_getElem.1 hm
      rw [List.length_take] at hj
      rw [List.getElem_take] at e
      have := nodup_inj hR e
      omega
    rw [in_step R i _ hh]
    refine ⟨ins_srt ah_ord _ _ h1 hn, by rw [ins_len, h2], fun x => ?_⟩
    rw [ins_mem, h3, List.take_add_one, hh, List.mem_append]
    simp only [Option.toList_some, List.mem_singleton]
    exact ⟨fun | .inl h => .inr h | .inr h => .inl h, fun | .inl h => .inr h | .inr h => .inl h⟩
theorem in_not (R : List Hn) (hR : R.Nodup) (i : Nat) (h : Hn) (hh : R[i]? = some h) : (inL R i).contains h = false := by
  obtain ⟨hi, e⟩ := List.getElem?_eq_some_iff.1 hh
  obtain ⟨_, _, h3⟩ := in_facts R hR i (by omega)
  rw [Bool.eq_false_iff]
  intro hc
  rw [List.contains_iff_mem, h3] at hc
  obtain ⟨j, hj, e2⟩ := List.mem_iff_getElem.1 hc
  rw [List.length_take] at hj
  rw [List.getElem_take, ← e] at e2
  have := nodup_inj hR e2
  omega
theorem in_end (L R : List Hn) (hL : Srt ahB L) (hR : R.Perm L) : inL R R.length = L := by
  have hn : R.Nodup := hR.nodup_iff.2 (srt_nodup ah_ord L hL)
  obtain ⟨h1, _, h3⟩ := in_facts R hn R.length (Nat.le_refl _)
  refine srt_ext ah_ord _ _ h1 hL (fun x => ?_)
  rw [h3, List.take_length, hR.mem_iff]
theorem rem_one (L : List Hn) (h : Hn) (hn : L.Nodup) (hm : h ∈ L) : (remL L h).length + 1 = L.length := by
  induction L with
  | nil => cases hm
  | cons a r ih =>
    obtain ⟨h1, h2⟩ := List.nodup_cons.1 hn
    unfold remL at *
    by_cases e : a = h
    · subst e
      have : r.filter (· != a) = r := List.filter_eq_self.2 (fun x hx => by simp; rintro rfl; exact h1 hx)
      rw [List.filter_cons]; simp [this]
    · have hm2 : h ∈ r := by
        rcases List.mem_cons.1 hm with e2 | e2
        · exact absurd e2.symm e
        · exact e2
      have := ih h2 hm2
      rw [List.filter_cons, if_pos (by simpa using e)]
      simp only [List.length_cons]
      omega
theorem out_facts (L R : List Hn) (hL : Srt ahB L) (hR : R.Perm L) : ∀ i, i ≤ R.length → Srt ahB (outL L R i) ∧ (outL L R i).length + i = L.length ∧ (∀ x, x ∈ outL L R i ↔ x ∈ L ∧ x ∉ R.take i) := by
  have hn : R.Nodup := hR.nodup_iff.2 (srt_nodup ah_ord L hL)
  intro i
  induction i with
  | zero => intro _; exact ⟨by unfold outL; rw [List.take_zero]; exact hL, by unfold outL; rw [List.take_zero]; rfl, fun x => by unfold outL; rw [List.take_zero]; simp⟩
  | succ i ih =>
    intro hi
    obtain ⟨h1, h2, h3⟩ := ih (by omega)
    have hh : R[i]? = some R[i] := List.getElem?_eq_getElem (by omega)
    have hm : R[i] ∈ outL L R i := by
      rw [h3]
      refine ⟨hR.mem_iff.1 (List.getElem_mem _), fun hm => ?_⟩
      obtain ⟨j, hj, e⟩ := List.mem_iff_getElem.1 hm
      rw [List.length_take] at hj
      rw [List.getElem_take] at e
      have := nodup_inj hn e
      omega
    rw [out_step L R i _ hh]
    have h4 := rem_one _ _ (srt_nodup ah_ord _ h1) hm
    refine ⟨rem_srt _ _ h1, by omega, fun x => ?_⟩
    unfold remL
    rw [List.mem_filter, h3, List.take_add_one, hh, List.mem_append]
    simp only [bne_iff_ne, ne_eq, Option.toList_some, List.mem_singleton]
    exact ⟨fun ⟨⟨a, b⟩, c⟩ => ⟨a, fun | .inl d => b d | .inr d => c d⟩, fun ⟨a, b⟩ => ⟨⟨a, fun d => b (.inl d)⟩, fun d => b (.inr d)⟩⟩
theorem out_has (L R : List Hn) (hL : Srt ahB L) (hR : R.Perm L) (i : Nat) (h : Hn) (hh : R[i]? = some h) : remB (outL L R i) h = true := by
  have hn : R.Nodup := hR.nodup_iff.2 (srt_nodup ah_ord L hL)
  obtain ⟨hi, e⟩ := List.getElem?_eq_some_iff.1 hh
  obtain ⟨_, _, h3⟩ := out_facts L R hL hR i (by omega)
  rw [rem_mem, List.contains_iff_mem, h3]
  refine ⟨hR.mem_iff.1 (List.mem_of_getElem? hh), fun hm => ?_⟩
  obtain ⟨j, hj, e2⟩ := List.mem_iff_getElem.1 hm
  rw [List.length_take] at hj
  rw [List.getElem_take, ← e] at e2
  have := nodup_inj hn e2
  omega
theorem out_end (L R : List Hn) (hL : Srt ahB L) (hR : R.Perm L) : outL L R R.length = [] := by
  obtain ⟨_, h2, _⟩ := out_facts L R hL hR R.length (Nat.le_refl _)
  have := hR.length_eq
  exact List.eq_nil_of_length_eq_zero (by omega)
theorem nod_nil : nodL [] = 1 := rfl
theorem Hnts.outs {w w' : World} {A : Option Addr} {n : Nat} {L : List Hn} {F : Nat → Prop} (h : Hnts w A n L) (hU : Outs w w' F) (hA : 0 < n → ∀ b, A = some ⟨b, 0, none⟩ → ¬ F b) (hA0 : ∀ b o, A = some ⟨b, o, none⟩ → o = 0) : Hnts w' A n L :=
  ⟨h.1, fun hn => by
    obtain ⟨b, off, e, hc⟩ := h.2 hn
    have h0 := hA0 b off e
    subst h0
    exact ⟨b, 0, e, fun j x hx => hU.cell _ _ (hc j x hx) (hA hn b e)⟩⟩
end Go.Proofs.YtipdmfnkkkdlbaaGreatDoor
