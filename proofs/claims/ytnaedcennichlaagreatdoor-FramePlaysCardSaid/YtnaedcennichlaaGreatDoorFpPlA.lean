/-
  FramePlays: what Next tells, of both framers.
-/
import Derived.Test.YtnaedcennichlaaGreatDoorFpRef2
import Derived.Test.YtnaedcennichlaaGreatDoorFrGreat
import Derived.Test.YtnaedcennichlaaGreatDoorFrOpen
set_option linter.unusedSimpArgs false
set_option linter.unusedVariables false
namespace Go.Proofs.YtnaedcennichlaaGreatDoor
open Go.RowKit
set_option maxRecDepth 100000
theorem nx_bd (m : Int) (b : List UInt8) (f : Int) (hm : m ≤ 65536) (P : Pk) (X : List (List UInt8 × Int)) (r : Bool) (er : Int) (b' : List UInt8) (f' : Int) (h : nxR m b f = ((P, X), r, er, b', f')) : X.length ≤ 50000 ∧ b'.length ≤ b.length := by
  by_cases hf : f = 0
  · subst hf
    rcases dc_any m b hm with h1 | ⟨e, h1, he⟩ | ⟨p, xs, n, h1, h2, h3, hk⟩
    · rw [nx_dc h1, if_pos rfl] at h; cases h; simp
    · rw [nx_dc h1, if_neg (by omega)] at h; cases h; simp
    · unfold nxR at h
      rw [h1, if_pos rfl] at h
      dsimp only at h
      rw [if_pos rfl] at h
      cases h
      refine ⟨?_, by simp⟩
      rcases hk with ⟨_, _, rfl, _⟩ | ⟨_, hk, _⟩
      · simp
      · exact hk.num
  · rw [nx_err m b f hf] at h; cases h; simp
section
variable {B : Nat} {w w' : World} {g : Nat} {o : Option Nat} {m : Int} {b s : List UInt8} {f E : Int}
theorem frNext_any (h : Fr B w g o m b f) (hG : ∀ w', Below w.heap.size w w' → Glo w') (hb : b.length ≤ 900000000) (P : Pk) (X : List (List UInt8 × Int)) (r : Bool) (er : Int) (b' : List UInt8) (f' : Int) (hN : nxR m b f = ((P, X), r, er, b', f')) :
    Calls Tryz.prog 10 #[.pointer (some ⟨g, 0, none⟩)] w fun e w' => NEX w P X r er e w' ∧ ∃ o', Fr B w' g o' m b' f' ∧ Fd w w' g o ∧ NewO w o o' := by
  by_cases hf : f = 0
  · subst hf
    rcases dc_any m b h.lim.2 with h1 | ⟨e, h1, he⟩ | ⟨p, xs, n, h1, h2, h3, hk⟩
    · rw [nx_dc h1, if_pos rfl] at hN
      cases hN
      have := frNextO h hG hb zPk [] 0 h1 (by omega) false rfl
      rw [List.drop_zero] at this
      exact this
    · rw [nx_dc h1, if_neg (by omega)] at hN
      cases hN
      exact frNextB h hG hb _ h1 (by omega)
    · unfold nxR at hN
      rw [h1, if_pos rfl] at hN
      dsimp only at hN
      rw [if_pos rfl, decide_eq_true (by omega : (0 : Int) < (n : Int)), Int.toNat_natCast] at hN
      cases hN
      exact frNextO h hG hb _ _ n h1 h3 true (by simp; omega)
  · rw [nx_err m b f hf] at hN
    cases hN
    exact (frNextE h hf).mono fun e w' ⟨h1, h2⟩ => ⟨h1, o, h.below h2, Fd.of_below h2, NewO.refl _ _⟩
theorem dec_n {s : List UInt8} {P : Pk} {X : List (List UInt8 × Int)} {N : Int} (hd : decR s = (P, X, N, 0)) : 0 ≤ N ∧ N ≤ s.length := by
  have h5 : (cutR s).2.2 = 0 := by
    by_cases hh : (cutR s).2.2 = 0
    · exact hh
    · exfalso
      unfold decR at hd
      rw [if_neg hh] at hd
      injection hd with _ hd
      injection hd with _ hd
      injection hd with _ hd
      exact hh hd
  obtain ⟨b0, r0, n0, u0, hs, _, _, k1, k2, k3, _, k8, _⟩ := cut_ok h5
  rw [hs, List.length_cons]
  unfold decR at hd
  rw [if_pos h5, k8] at hd
  dsimp only at hd
  split at hd
  · injection hd with _ hd
    injection hd with _ hd
    injection hd with hd _
    omega
  · split at hd
    · injection hd with _ hd
      injection hd with _ hd
      injection hd with hd _
      omega
    · injection hd with _ hd
      injection hd with _ hd
      injection hd with _ hd
      cases hd
theorem rfNext_any (h : RF w g m s E) (hl : s.length ≤ 30000) (P : Pk) (X : List (List UInt8 × Int)) (r : Bool) (er : Int) (b' : List UInt8) (f' : Int) (hN : nxR m s E = ((P, X), r, er, b', f')) :
    Calls Tryz.prog 11 #[.pointer (some ⟨g, 0, none⟩)] w fun e w' => RNX w g m P X r er b' f' e w' := by
  by_cases hf : E = 0
  · subst hf
    cases s with
    | nil =>
      rw [nx_nil] at hN
      cases hN
      exact rfNextN h
    | cons x t =>
      rw [List.length_cons] at hl
      cases hfb : firB x.toNat with
      | false =>
        rw [nx_first hfb] at hN
        cases hN
        exact rfNext4 x t _ _ _ false h (by omega) rfl hfb (Or.inl rfl)
      | true =>
        rcases rdR_bad t with ⟨n, u, hr⟩ | hr | hr
        · obtain ⟨j, hj, hc, hjl, hn0, hn1, ht⟩ := rdR_ok t n u hr
          obtain ⟨n, rfl⟩ : ∃ m : Nat, n = m := ⟨n.toNat, by omega⟩
          obtain ⟨U, rfl⟩ : ∃ m : Nat, u = m := ⟨u.toNat, by omega⟩
          have hU : U ≤ 4 := by omega
          have hn : n ≤ 268435455 := by
            have h9 : (128 : Int) ^ (j + 1) ≤ 268435456 := by
              rcases (show j = 0 ∨ j = 1 ∨ j = 2 ∨ j = 3 by omega) with rfl | rfl | rfl | rfl <;> decide
            omega
          by_cases hm : m < 1 + U + n
          · rw [nx_long hfb hr hm] at hN
            cases hN
            exact rfNext3 x t n U h (by omega) hr hfb hn hU hm
          · by_cases hs : t.length < U + n
            · rw [nx_short hfb hr hm (by rw [List.length_cons]; omega)] at hN
              cases hN
              exact rfNextS x t n U h (by omega) hr hfb hn hU hm hs
            · obtain ⟨P9, X9, N9, er9, hd⟩ : ∃ P X N er, decR (x :: t) = (P, X, N, er) := ⟨_, _, _, _, rfl⟩
              rw [nx_dec hfb hr hm (by rw [List.length_cons]; omega) hd] at hN
              by_cases he : er9 = 0
              · subst he
                rw [if_pos rfl] at hN
                obtain ⟨k1, k2⟩ := dec_n hd
                obtain ⟨N, rfl⟩ : ∃ m : Nat, N9 = m := ⟨N9.toNat, by omega⟩
                rw [Int.toNat_natCast] at hN
                rw [List.length_cons] at k2
                cases hN
                exact rfNextO x t n U h (by omega) hr hfb hn hU hm hs _ _ N hd (by omega)
              · rw [if_neg he] at hN
                cases hN
                exact rfNextG x t n U _ h (by omega) hr hfb hn hU hm hs P9 X9 N9 hd he
        · rw [nx_two hfb hr] at hN
          cases hN
          exact rfNext2 x t h (by omega) hr hfb
        · rw [nx_four hfb hr] at hN
          cases hN
          exact rfNext4 x t _ _ 4 true h (by omega) hr hfb (Or.inr rfl)
  · rw [nx_err m s E hf] at hN
    cases hN
    exact rfNextE h hf
theorem RF.keepS {e' : Int} (h : RF w g m s e') (hd : Fd w w' g none) : KeepS w w' := ⟨hd.size, fun b cur hb => (hd.block b (Array.getElem?_eq_some_iff.1 hb).1 (by
  rintro rfl
  unfold RF at h
  rw [h] at hb
  injection hb with hb
  injection hb with _ h4 _
  exact absurd h4 (by decide)) (by simp)).trans hb⟩
theorem RF.other {e' : Int} (h : RF w g m s e') (hd : Fd w w' g none) {d : Nat} {cs : Array Value} {t : TypeId} (hk : w.heap[d]? = some (.cells cs t (0, 0))) (h1 : t ≠ 45) : w'.heap[d]? = some (.cells cs t (0, 0)) := by
  refine (hd.block d (Array.getElem?_eq_some_iff.1 hk).1 ?_ (by simp)).trans hk
  rintro rfl
  unfold RF at h
  rw [h] at hk
  injection hk with hk
  injection hk with _ h4 _
  exact h1 h4.symm
/-- Where a told packet's Subs lie: they may be written. -/
def SubW (B : Nat) (w : World) (A : Option Addr) (n : Nat) : Prop := 0 < n → ∃ b off cur, A = some ⟨b, off, none⟩ ∧ B ≤ b ∧ w.heap[b]? = some (.cells cur 42 (0, 0)) ∧ off + n * 2 ≤ cur.size
theorem subW_of {A : Option Addr} {n : Nat} {X : List (List UInt8 × Int)} (h : Subs w A n X) (ht : SubT B w A n) : SubW B w A n := by
  intro hn
  obtain ⟨b, off, x, e, _, _, h2, _⟩ := h.at_ (show n - 1 < n by omega)
  obtain ⟨h3, cur, h4⟩ := ht hn b off e
  rw [rowAt_blk h4] at h2
  exact ⟨b, off, cur, e, h3, h4, by omega⟩
end
end Go.Proofs.YtnaedcennichlaaGreatDoor
