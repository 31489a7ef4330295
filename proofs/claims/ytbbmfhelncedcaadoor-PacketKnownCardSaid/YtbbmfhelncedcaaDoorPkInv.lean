/-
  A region that draws its order: by an invariant over what has come up.
-/
import Derived.Test.YtbbmfhelncedcaaDoorKit
set_option linter.unusedSimpArgs false
set_option linter.unusedVariables false
namespace Go.Proofs.YtbbmfhelncedcaaDoor
section
variable {P : Program} {ops : Array Oper} {Q : Exit → Act → World → Prop} {md : Region.Mode}
theorem wpAny_inv (Inv : (Nat → Bool) → Act → World → Prop)
    (hend : ∀ D a w, Inv D a w → (∀ j o, ops[j]? = some o → (∀ e ∈ o.after, Region.binds md e = true → D e.on = true) → D j = true) → Q .normal a w)
    (hstep : ∀ D a w i o, Inv D a w → D i = false → ops[i]? = some o → (∀ e ∈ o.after, Region.binds md e = true → D e.on = true) → wpOp P ops Q i (fun a' w' => Inv (fun j => if j = i then true else D j) a' w') a w) :
    ∀ (fuel : Nat) (listed : Array Bool) (a : Act) (w : World), listed.size = ops.size → listed.toList.count false ≤ fuel → Inv (fun j => listed.getD j false) a w → wpAny P md ops Q fuel listed a w := by
  have hE : ∀ (listed : Array Bool) (a : Act) (w : World), listed.size = ops.size → Inv (fun j => listed.getD j false) a w → Region.ready md ops listed = [] → Q .normal a w := by
    intro listed a w hs hI hr
    refine hend _ a w hI (fun j o ho hd => ?_)
    have hj : j < ops.size := (Array.getElem?_eq_some_iff.1 ho).1
    cases hc : listed.getD j false with
    | true => rfl
    | false =>
      have hf : listed.getD j true = false := by
        have h1 : j < listed.size := by omega
        simp [Array.getD, h1] at hc ⊢
        exact hc
      have : j ∈ Region.ready md ops listed := mem_ready.2 ⟨hf, o, ho, hd⟩
      rw [hr] at this
      cases this
  intro fuel
  induction fuel with
  | zero =>
    intro listed a w hs hc hI
    have hr : Region.ready md ops listed = [] := by
      rw [List.eq_nil_iff_forall_not_mem]
      intro j hj
      obtain ⟨h1, _⟩ := mem_ready.1 hj
      have hlt : j < listed.size := by
        rcases Nat.lt_or_ge j listed.size with h | h
        · exact h
        · simp [Array.getD, Nat.not_lt.2 h] at h1
      have h2 : listed.toList[j]'(by simpa using hlt) = false := by simp [Array.getD, hlt] at h1; simpa using h1
      have : 0 < listed.toList.count false := List.count_pos_iff.2 (h2 ▸ List.getElem_mem _)
      omega
    exact ⟨hr, hE listed a w hs hI hr⟩
  | succ fuel ih =>
    intro listed a w hs hc hI
    refine ⟨hE listed a w hs hI, fun i hi => ?_⟩
    obtain ⟨h1, o, ho, hd⟩ := mem_ready.1 hi
    have hlt : i < listed.size := by
      rcases Nat.lt_or_ge i listed.size with h | h
      · exact h
      · simp [Array.getD, Nat.not_lt.2 h] at h1
    have h2 : listed[i] = false := by simp [Array.getD, hlt] at h1; simpa using h1
    refine wpOp_mono (fun a' w' hI' => ih _ a' w' (by simpa using hs) ?_ ?_) (hstep _ a w i o hI (by simp [Array.getD, hlt, h2]) ho hd)
    · have h3 : listed.toList[i]'(by simpa using hlt) = false := by simpa using h2
      have h4 : 0 < listed.toList.count false := List.count_pos_iff.2 (h3 ▸ List.getElem_mem _)
      rw [Array.toList_setIfInBounds, List.count_set (by simpa using hlt)]
      have h5 : (listed.toList[i]'(by simpa using hlt) == false) = true := by rw [h3]; rfl
      rw [if_pos h5, if_neg (by decide)]
      omega
    · have : (fun j => (listed.setIfInBounds i true).getD j false) = fun j => if j = i then true else listed.getD j false := by
        funext j
        by_cases hji : j = i
        · subst hji; simp [Array.getD, hlt]
        · simp only [Array.getD, Array.size_setIfInBounds, if_neg hji]
          split
          · rename_i hj
            exact Array.getElem_setIfInBounds_ne (by simpa using hj) (Ne.symm hji)
          · rfl
      rw [this]
      exact hI'
/-- The beginning. -/
theorem wp_region_inv {id : Nat} {a : Act} {w : World} (hm : P.follows .mixedOrders = true) (Inv : (Nat → Bool) → Act → World → Prop)
    (hend : ∀ D a w, Inv D a w → (∀ j o, ops[j]? = some o → (∀ e ∈ o.after, Region.binds .any e = true → D e.on = true) → D j = true) → Q .normal a w)
    (hstep : ∀ D a w i o, Inv D a w → D i = false → ops[i]? = some o → (∀ e ∈ o.after, Region.binds .any e = true → D e.on = true) → wpOp P ops Q i (fun a' w' => Inv (fun j => if j = i then true else D j) a' w') a w)
    (h0 : Inv (fun _ => false) a w.drew) : (Code.region id ops true).wp P Q a w := by
  refine wp_region_any hm (wpAny_inv Inv hend hstep ops.size _ a _ (by simp) (by simp) ?_)
  have : (fun j => (Array.replicate ops.size false).getD j false) = fun _ => false := by
    funext j
    simp [Array.getD]
  rw [this]
  exact h0
end
end Go.Proofs.YtbbmfhelncedcaaDoor
