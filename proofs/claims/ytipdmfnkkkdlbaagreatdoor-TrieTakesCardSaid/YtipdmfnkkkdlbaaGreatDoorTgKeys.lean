/-
  trie: a set's members, sorted, in a new slice (slices.Sorted of maps.Keys).
-/
import Derived.Test.YtipdmfnkkkdlbaaGreatDoorTgMap
import Derived.Test.YtipdmfnkkkdlbaaGreatDoorTrPut
import Derived.Test.YtipdmfnkkkdlbaaGreatDoorIter
import Derived.Test.YtipdmfnkkkdlbaaGreatDoorShelf
set_option linter.unusedSimpArgs false
set_option linter.unusedVariables false
namespace Go.Proofs.YtipdmfnkkkdlbaaGreatDoor
open Go.RowKit Go.Maps Go.Sort Go.Shelf

theorem ltB_lt : ∀ a b : List UInt8, ltB a b = decide (a < b)
  | [], [] => by simp [ltB, Op.bytesLess]
  | [], b :: y => by simp [ltB, Op.bytesLess]
  | a :: x, [] => by simp [ltB, Op.bytesLess]
  | a :: x, b :: y => by
    rw [lt_cons, ltB_lt x y, Bool.eq_iff_iff]
    simp only [Bool.or_eq_true, decide_eq_true_eq, Bool.and_eq_true, beq_iff_eq, List.cons_lt_cons_iff]
theorem sort_srt {ss : List (List UInt8)} (hn : ss.Nodup) : Srt ltB (ss.mergeSort leB) := by
  have tr : ∀ a b c : List UInt8, leB a b = true → leB b c = true → leB a c = true := fun a b c h1 h2 => by simp only [leB, decide_eq_true_eq] at *; exact List.le_trans h1 h2
  have tt : ∀ a b : List UInt8, (leB a b || leB b a) = true := fun a b => by simp only [leB, Bool.or_eq_true, decide_eq_true_eq]; exact List.le_total a b
  have h1 := List.pairwise_mergeSort tr tt ss
  have h2 : (ss.mergeSort leB).Nodup := (List.mergeSort_perm ss leB).nodup_iff.2 hn
  refine (h1.and h2).imp ?_
  rintro a b ⟨hab, hne⟩
  cases hl : ltB a b with
  | true => rfl
  | false =>
    have h3 := lt_ord.tot a b hne hl
    rw [ltB_lt, decide_eq_true_eq] at h3
    simp only [leB, decide_eq_true_eq] at hab
    exact absurd h3 (List.not_lt.2 hab)
theorem sort_mem (ss : List (List UInt8)) (x : List UInt8) : x ∈ ss.mergeSort leB ↔ x ∈ ss := (List.mergeSort_perm ss leB).mem_iff
theorem sort_len (ss : List (List UInt8)) : (ss.mergeSort leB).length = ss.length := (List.mergeSort_perm ss leB).length_eq
theorem sorts_in (m : Nat) : AnyZ.SortsIn Tryz.prog Tryz.sorted45_ren Fence.wide m :=
  ⟨fun blk off cap ss W hH hblk hsz => callsIn_wide.2 (Tryz.slices_Sort_string blk off cap ss W hH hblk hsz),
   fun p cap W => callsIn_wide.2 (Tryz.slices_Sort_string_none p cap W)⟩
theorem keys_eq (mb : Option Nat) (W : World) : Calls Tryz.prog 46 #[.map mb] W fun e w' => e = .returned (.func (.func 71) #[] #[.pointer (some ⟨W.heap.size, 0, none⟩)]) ∧ w' = W.alloc (.cells #[.map mb] 51) :=
  callsIn_wide.1 (AnyZ.keys_in Tryz.keys46 Fence.wide 5 trivial rfl mb W)
set_option maxHeartbeats 1000000 in
theorem sorted_eq {w : World} {m : Nat} {s : List UInt8 → Prop} (hC : CM w m s) (ks : List (List UInt8)) (hks : ∀ c, s c → c ∈ ks) (hkl : ks.length ≤ 1000000) (M : List (List UInt8)) (hS : Srt ltB M) (hM : ∀ x, x ∈ M ↔ s x) :
    Calls Tryz.prog 45 #[.func (.func 71) #[] #[.pointer (some ⟨w.heap.size, 0, none⟩)]] (w.alloc (.cells #[.map (some m)] 51)) fun e w' => SVP w M e w' := by
  obtain ⟨D, hown, hh⟩ := hC
  have hsz := own_size_le hown ks (fun x hx => hks x ((hh x).1 hx))
  obtain ⟨k1, hk1, hk2, hk3, hk4⟩ := own_keys hown
  have hbl := hown.lt
  have hseq : SeqGives Fence.wide 2 Tryz.prog 71 #[.pointer (some ⟨w.heap.size, 0, none⟩)] encStr (fun ss => ss.Perm (strKeys D)) (Maps.size D) (w.alloc (.cells #[.map (some m)] 51)) :=
    AnyZ.keys_gives (ρ := Tryz.keys46_ren) { Tryz.keys46 with } Fence.wide _ trivial rfl (by omega) w.heap.size m (Maps.size D) D _ (by simp) (by simp) (by
      obtain ⟨es, clock, hb, Ft, hs, hD⟩ := hown
      exact ⟨es, clock, (Below.heap_alloc _ _ m hbl).trans hb, Ft, hs, hD⟩)
  refine (callsIn_wide.1 (AnyZ.sorted_in Tryz.sorted45 Fence.wide 5 trivial trivial trivial trivial rfl (by omega) (sorts_in _) (enters_of Tryz.func39 (by kernel_rfl) rfl) 71 #[.pointer (some ⟨w.heap.size, 0, none⟩)] trivial (enters_of Tryz.func71 (by kernel_rfl) rfl) _ _ (by unfold maxLen; omega) (by omega) _ hseq)).mono ?_
  rintro e w' ⟨v, ss, rfl, hp, hrow, hnil, hb⟩
  have hnd : ss.Nodup := by rw [hp.nodup_iff, ← hk4]; exact hk1
  have hMs : M = ss.mergeSort leB := by
    refine srt_ext lt_ord _ _ hS (sort_srt hnd) (fun x => ?_)
    rw [hM, sort_mem, hp.mem_iff, ← hk4, hk3, hh]
  have hb0 : Below w.heap.size w (w.alloc (.cells #[.map (some m)] 51)) := below_alloc (Below.refl _ _) _
  have hO : OwnS 9 w.heap.size w w' v M := by
    refine ⟨?_, hb0.trans (hb.mono (by simp)), Nat.le_trans hb0.size hb.size⟩
    rw [hMs, sort_len]
    obtain ⟨h1, h2⟩ := hrow
    refine ⟨by simp, ?_⟩
    rcases h2 with h2 | ⟨g, cap, cur, e, hg, r⟩
    · exact Or.inl h2
    · exact Or.inr ⟨g, cap, cur, e, Nat.le_trans (by simp) hg, r⟩
  exact OwnS.told hO
end Go.Proofs.YtipdmfnkkkdlbaaGreatDoor
