/-
  A region that draws its order and ends in one operation that all others come ahead of (a store behind loads of the same place): what may be taken first, with a condition on the world that holds up to that last one.
-/
import Derived.Test.YtihgikhnkkmhhaaKit
import Derived.Deep.RegionHeld3
set_option linter.unusedSimpArgs false
set_option linter.unusedVariables false
namespace Go.Proofs.Ytihgikhnkkmhhaa
section
variable {P : Program} {ops : Array Oper} {Q : Exit → Act → World → Prop} {md : Region.Mode} {S : World → Prop} {m : Nat}
/-- What has come up: with each all that it waits for. -/
def ClosedL (md : Region.Mode) (ops : Array Oper) (listed : Array Bool) : Prop :=
  listed.size = ops.size ∧ ∀ j oj, ops[j]? = some oj → listed.getD j false = true → ∀ e ∈ oj.after, Region.binds md e = true → listed.getD e.on false = true
/-- Number m comes up last. -/
def LastL (md : Region.Mode) (ops : Array Oper) (m : Nat) : Prop :=
  ∀ listed, ClosedL md ops listed → m ∈ Region.ready md ops listed → ∀ i, i < ops.size → i ≠ m → listed.getD i false = true
def edgeB (md : Region.Mode) (ops : Array Oper) (j k : Nat) : Bool := match ops[k]? with
  | some o => o.after.any fun e => e.on == j && Region.binds md e
  | none => false
def chainB (md : Region.Mode) (ops : Array Oper) : List Nat → List (Nat × Nat) → List Nat
  | K, [] => K
  | K, (j, k) :: r => if K.contains k && edgeB md ops j k then chainB md ops (j :: K) r else []
theorem last_chain (c : List (Nat × Nat)) (h : (List.range ops.size).all (fun i => (chainB md ops [m] c).contains i) = true) : LastL md ops m := by
  intro listed hcl hm i hi hne
  obtain ⟨_, om, hom, hall⟩ := mem_ready.1 hm
  have key : ∀ (c : List (Nat × Nat)) (K : List Nat), (∀ k ∈ K, k = m ∨ listed.getD k false = true) → ∀ k ∈ chainB md ops K c, k = m ∨ listed.getD k false = true := by
    intro c
    induction c with
    | nil => exact fun K h => h
    | cons a r ih =>
      obtain ⟨j, k⟩ := a
      intro K hK
      unfold chainB
      split
      · next hc =>
        rw [Bool.and_eq_true] at hc
        have hk := hK k (List.contains_iff_mem.1 hc.1)
        have hj : listed.getD j false = true := by
          have he := hc.2
          unfold edgeB at he
          cases ho : ops[k]? with
          | none => rw [ho] at he; cases he
          | some o =>
            rw [ho] at he
            obtain ⟨x, hx, h2⟩ := Array.any_eq_true.1 he
            have h1 := Array.getElem_mem hx
            generalize o.after[x] = e at h1 h2
            rw [Bool.and_eq_true, beq_iff_eq] at h2
            rw [← h2.1]
            rcases hk with rfl | hk
            · rw [hom] at ho; cases ho
              exact hall e h1 h2.2
            · exact hcl.2 k o ho hk e h1 h2.2
        refine ih _ (fun x hx => ?_)
        rcases List.mem_cons.1 hx with rfl | hx
        · exact Or.inr hj
        · exact hK x hx
      · intro x hx; cases hx
  have h1 := List.all_eq_true.1 h i (List.mem_range.2 hi)
  rcases key c [m] (fun k hk => Or.inl (by simpa using hk)) i (List.contains_iff_mem.1 h1) with h2 | h2
  · exact absurd h2 hne
  · exact h2
theorem ClosedL.set {listed : Array Bool} {j : Nat} (h : ClosedL md ops listed) (hj : j ∈ Region.ready md ops listed) : ClosedL md ops (listed.setIfInBounds j true) := by
  refine ⟨by simpa using h.1, fun k ok hk hl e he hb => getD_set_true ?_⟩
  by_cases hjk : j = k
  · subst hjk
    obtain ⟨_, o, ho, hall⟩ := mem_ready.1 hj
    rw [hk] at ho; cases ho
    exact hall e he hb
  · rw [getD_set_ne false hjk] at hl
    exact h.2 k ok hk hl e he hb
/-- As 'wpAnyH', but that nothing is asked of the world behind number m. -/
def wpAnyM (P : Program) (md : Region.Mode) (ops : Array Oper) (Q : Exit → Act → World → Prop) (S : World → Prop) (m : Nat) : Nat → Array Bool → Act → World → Prop
  | 0, listed, a, w => Region.ready md ops listed = [] ∧ Q .normal a w
  | n + 1, listed, a, w => (Region.ready md ops listed = [] → Q .normal a w) ∧
    ∀ i ∈ Region.ready md ops listed, wpOp P ops Q i (fun a' w' => (i ≠ m → S w') ∧ wpAnyM P md ops Q S m n (listed.setIfInBounds i true) a' w') a w
theorem anyM_any : ∀ (n : Nat) (listed : Array Bool) (a : Act) (w : World), wpAnyM P md ops Q S m n listed a w → wpAny P md ops Q n listed a w
  | 0, _, _, _, h => h
  | n + 1, _, _, _, h => ⟨h.1, fun i hi => wpOp_mono (fun a' w' k => anyM_any n _ a' w' k.2) (h.2 i hi)⟩
theorem anyM_first (hL : LastL md ops m) {i : Nat} {oi : Oper} {v : Value} (him : i ≠ m) (hi : ops[i]? = some oi) (hsel : ∀ (j : Nat) (o : Oper) cs b, ops[j]? = some o → o.op ≠ .select cs b)
    (hQ : ∀ c a w, Q (.panic c) (a.put oi.dst v) w → Q (.panic c) a w) : ∀ (n : Nat) (listed : Array Bool) (a : Act) (w : World), ClosedL md ops listed →
      (∀ j oj, ops[j]? = some oj → j ≠ i → listed.getD j true = false → (∀ e ∈ oj.after, Region.binds md e = true → e.on ≠ i) → oi.apart ops oj = true) →
      i ∈ Region.ready md ops listed → YieldsIf P ops S oi v a → S w → wpAnyM P md ops Q S m n (listed.setIfInBounds i true) (a.put oi.dst v) w → wpAnyM P md ops Q S m (n + 1) listed a w := by
  have hlt : i < ops.size := (Array.getElem?_eq_some_iff.1 hi).1
  intro n
  induction n with
  | zero =>
    intro listed a w _ _ hr hy hS H
    refine ⟨fun h => (by rw [h] at hr; cases hr), fun j hj => ?_⟩
    by_cases hji : j = i
    · subst hji; exact hy.wpOp hi hS ⟨fun _ => hS, H⟩
    · have h0 := ready_mono hj hji
      rw [H.1] at h0
      cases h0
  | succ n ih =>
    intro listed a w hcl hfree hr hy hS H
    refine ⟨fun h => (by rw [h] at hr; cases hr), fun j hj => ?_⟩
    by_cases hji : j = i
    · subst hji; exact hy.wpOp hi hS ⟨fun _ => hS, H⟩
    · have hun : listed.getD i false = false := by
        have h0 := (mem_ready.1 hr).1
        have h1 : i < listed.size := by rw [hcl.1]; exact hlt
        simp [Array.getD, h1] at h0 ⊢
        exact h0
      have hjm : j ≠ m := by
        rintro rfl
        have := hL listed hcl hj i hlt him
        rw [hun] at this; cases this
      obtain ⟨hju, oj, hoj, hall⟩ := mem_ready.1 hj
      have hno : ∀ e ∈ oj.after, Region.binds md e = true → e.on ≠ i := fun e he hb heq => by
        have h1 := hall e he hb
        rw [heq, hun] at h1
        cases h1
      have h2 := wpOp_putIf hoj (hfree j oj hoj hji hju hno) (fun cs b => hsel i oi cs b hi) (fun cs b => hsel j oj cs b hoj) hQ hy (H.2 j (ready_mono hj hji))
      refine wpOp_mono (fun a' w' k => ⟨k.2.1, ih (listed.setIfInBounds j true) a' w' (hcl.set hj) (fun x ox hx hxi hxu hxn => ?_) (ready_mono hr (Ne.symm hji)) k.1 (k.2.1 hjm) ?_⟩) h2
      · refine hfree x ox hx hxi ?_ hxn
        by_cases hjx : j = x
        · subst hjx; exact hju
        · rw [getD_set_ne true hjx] at hxu; exact hxu
      · rw [Array.setIfInBounds_comm _ _ hji]
        exact k.2.2
/-- Behind what has come up, the rest. -/
def AnyM (P : Program) (md : Region.Mode) (ops : Array Oper) (Q : Exit → Act → World → Prop) (S : World → Prop) (m n : Nat) (listed : Array Bool) (a : Act) (w : World) : Prop :=
  ClosedL md ops listed → wpAnyM P md ops Q S m n listed a w
theorem tkM (hL : LastL md ops m) (i : Nat) (oi : Oper) (v : Value) {n : Nat} {listed : Array Bool} {a : Act} {w : World} (hi : ops[i]? = some oi)
    (hs : Region.noSelect ops = true) (hf : Region.free md ops listed i = true) (hr : (Region.ready md ops listed).contains i = true) (him : (i != m) = true)
    (hQ : ∀ c a w, Q (.panic c) (a.put oi.dst v) w → Q (.panic c) a w) (hw : Region.wanted oi (yielded ops a.tmps) = true) (hy : ∀ w, S w → (execOp a.eval oi).run P w = .ok (.value v) w) (hS : S w)
    (h : AnyM P md ops Q S m n (listed.setIfInBounds i true) (a.put oi.dst v) w) : AnyM P md ops Q S m (n + 1) listed a w := fun hc =>
  anyM_first hL (by simpa using him) hi (Region.noSelect_spec hs) hQ n listed a w hc (Region.free_spec hi hf) (by simpa using hr) (Or.inl ⟨hw, hy⟩) hS (h (hc.set (by simpa using hr)))
/-- Each of 'rs' may come up next. -/
def AllM (P : Program) (md : Region.Mode) (ops : Array Oper) (Q : Exit → Act → World → Prop) (S : World → Prop) (m n : Nat) (listed : Array Bool) (a : Act) (w : World) (rs : List Nat) : Prop :=
  ∀ i ∈ rs, wpOp P ops Q i (fun a' w' => (i ≠ m → S w') ∧ AnyM P md ops Q S m n (listed.setIfInBounds i true) a' w') a w
theorem AllM.nil {n : Nat} {listed : Array Bool} {a : Act} {w : World} : AllM P md ops Q S m n listed a w [] := fun _ h => by cases h
theorem AllM.cons {n : Nat} {listed : Array Bool} {a : Act} {w : World} {i : Nat} {o : Oper} {rs : List Nat} (ho : ops[i]? = some o)
    (h : ∀ K' : Act → World → Prop, Shut (∀ a w, (i ≠ m → S w) → AnyM P md ops Q S m n (listed.setIfInBounds i true) a w → K' a w) → if Region.wanted o (yielded ops a.tmps) = true then Oper.wp P o a w K' Q else K' (a.put o.dst undef) w)
    (hs : AllM P md ops Q S m n listed a w rs) : AllM P md ops Q S m n listed a w (i :: rs) := fun j hj => by
  rcases List.mem_cons.1 hj with rfl | hj
  · exact wpOp_step ho (fun K' hK => h K' (fun a w hS hW => hK a w ⟨hS, hW⟩))
  · exact hs j hj
theorem anyM_ready {rs : List Nat} {n : Nat} {listed : Array Bool} {a : Act} {w : World} (hr : Region.ready md ops listed = rs) (hne : rs ≠ [])
    (h : AllM P md ops Q S m n listed a w rs) : AnyM P md ops Q S m (n + 1) listed a w := fun hc =>
  ⟨fun h0 => absurd (hr ▸ h0) hne, fun i hi => wpOp_mono (fun a' w' k => ⟨k.1, k.2 (hc.set hi)⟩) (h i (hr ▸ hi))⟩
theorem anyM_go {n i : Nat} {listed : Array Bool} {K : Act → World → Prop} (hK : Shut (∀ a w, (i ≠ m → S w) → AnyM P md ops Q S m n (listed.setIfInBounds i true) a w → K a w)) {a : Act} {w : World} (hS : S w) (h : S w → AnyM P md ops Q S m n (listed.setIfInBounds i true) a w) : K a w :=
  hK.out a w (fun _ => hS) (h hS)
theorem anyM_done {listed : Array Bool} {a : Act} {w : World} (hr : Region.ready md ops listed = []) (h : Q .normal a w) : ∀ n, AnyM P md ops Q S m n listed a w
  | 0 => fun _ => ⟨hr, h⟩
  | _ + 1 => fun _ => ⟨fun _ => h, fun i hi => by rw [hr] at hi; cases hi⟩
theorem region_last {id : Nat} {a : Act} {w : World} (hm : P.follows .mixedOrders = true) (h : AnyM P .any ops Q S m ops.size (Array.replicate ops.size false) a w.drew) : (Code.region id ops true).wp P Q a w := by
  refine wp_region_any hm (anyM_any (S := S) (m := m) _ _ _ _ (h ⟨by simp, fun j oj _ hl => ?_⟩))
  simp [Array.getD] at hl
end
end Go.Proofs.Ytihgikhnkkmhhaa
