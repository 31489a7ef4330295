/-
  trie: the document's own answers: Remove.
-/
import Derived.Test.YtipdmfnkkkdlbaaGreatDoorTrAdd2
set_option linter.unusedSimpArgs false
set_option linter.unusedVariables false
namespace Go.Proofs.YtipdmfnkkkdlbaaGreatDoor
open Go.RowKit

section
variable {w w' : World} {g n c : Nat} {A : Option Addr} {L : List Hn}
theorem rem_take (L : List Hn) (h x : Hn) (k : Nat) (hx : L[k]? = some x) : remL (L.take (k + 1)) h = if x == h then remL (L.take k) h else remL (L.take k) h ++ [x] := by
  unfold remL
  rw [List.take_add_one, hx, List.filter_append]
  by_cases e : x = h
  · subst e; simp
  · simp [e]
theorem rem_len (L : List Hn) (h : Hn) : (remL L h).length ≤ L.length := List.length_filter_le _ _
set_option maxHeartbeats 1000000 in
theorem rem_any (f c0 : List UInt8) (M : List Hn) (r : Bool) (hT : RT w g A n c L) (hn : n ≤ 1000000) (hM : remL L (f, c0) = M) (hr : remB L (f, c0) = r) :
    Calls Tryz.prog 29 #[.pointer (some ⟨g, 0, none⟩), .string ⟨f.toArray⟩, .string ⟨c0.toArray⟩] w fun e w' => RP w g A n M r e w' := by
  have HT := Lib.hid hT
  have HM := Lib.hid hM
  have HR : Hid (decide (M.length < L.length) = r) := by show _ = _; rw [← hr, ← hM]; rfl
  have HL := Lib.hid hT.len
  have hgl := hT.lt
  clear hT hM hr
  obtain ⟨W, hW⟩ : ∃ W, W = w.alloc (.cells #[.string ⟨f.toArray⟩, .string ⟨c0.toArray⟩] 40) := ⟨_, rfl⟩
  have hbW : Below w.heap.size w W := by rw [hW]; exact below_alloc (Below.refl _ _) _
  have k1 : Hid (W.cell? ⟨w.heap.size, 0, none⟩ = some (.string ⟨f.toArray⟩)) := by show _ = _; rw [hW, World.cell?_alloc_new]; rfl
  have k2 : Hid (W.cell? ⟨w.heap.size, 1, none⟩ = some (.string ⟨c0.toArray⟩)) := by show _ = _; rw [hW, World.cell?_alloc_new]; rfl
  have HTW := Lib.hid (HT.out.below hbW)
  go_enter Tryz.func29, Tryz.ntmps29
  go_wp2_with fail
  rw [← hW]
  clear hW
  go_loopw [8, 9] (fun v i wr => ∃ k : Nat, i = .int .i64 k ∧ k ≤ n ∧ OwnH W.heap.size W wr v (remL (L.take k) (f, c0))) (fun _ i _ => n - (intOf i).toNat)
  case atStart => exact ⟨0, rfl, by omega, OwnH.nil (Below.refl _ _) (Nat.le_refl _)⟩
  case round =>
    obtain ⟨k, rfl, hk, hO⟩ := hrel
    have hTr := HTW.out.below hO.below
    have hcl := hTr.cell
    by_cases hlt : k < n
    · obtain ⟨b1, o1, x, rfl, hx, hc1, hc2⟩ := hTr.2.1.at_ hlt
      have m1 := (hO.below.cell (World.block_lt_of_cell? _ _ k1.out)).trans k1.out
      have m2 := (hO.below.cell (World.block_lt_of_cell? _ _ k2.out)).trans k2.out
      have hrt := rem_take L (f, c0) x k hx
      have hrl := rem_len (L.take k) (f, c0)
      rw [List.length_take] at hrl
      obtain ⟨x1, x2⟩ := x
      obtain ⟨L0, hL0⟩ : ∃ L0, L0 = remL (L.take k) (f, c0) := ⟨_, rfl⟩
      rw [← hL0] at hO hrt hrl
      clear hL0 hx hTr
      have hkI : (k : Int) < (n : Int) := by omega
      have hl0 : L0.length ≤ 1000000 := by omega
      cases he : (x1 == f && x2 == c0) with
      | true =>
        have HN : Hid (remL (L.take (k + 1)) (f, c0) = L0) := by
          show _ = _
          rw [hrt, if_pos (by simp at he; rw [he.1, he.2]; simp)]
        clear hrt hrl
        go_wp2_with fail
        go_quiet (fail)
        have hO9 := hO.drewN nq
        generalize wr.drewN nq = w9 at hO9 ⊢
        clear hO
        rw [← HN.out] at hO9
        go_wp2_with fail
        go_roundw
        case rel => exact ⟨k + 1, by go_num, by omega, hO9⟩
        case measure => simp [intOf]; omega
      | false =>
        have HN : Hid (remL (L.take (k + 1)) (f, c0) = L0 ++ [(x1, x2)]) := by
          show _ = _
          rw [hrt, if_neg (by intro e; simp at e; rw [e.1, e.2] at he; simp at he)]
        clear hrt hrl
        go_wp2_with fail
        go_quiet (fail)
        have hO9 := hO.drewN nq
        have hcl9 : (wr.drewN nq).cell? ⟨g, 0, none⟩ = some (.slice (some ⟨b1, o1, none⟩) n c) := hcl
        have hc19 : (wr.drewN nq).cell? ⟨b1, o1 + k * 2, none⟩ = some (.string ⟨x1.toArray⟩) := hc1
        have hc29 : (wr.drewN nq).cell? ⟨b1, o1 + k * 2 + 1, none⟩ = some (.string ⟨x2.toArray⟩) := hc2
        generalize wr.drewN nq = w9 at hO9 hcl9 hc19 hc29 ⊢
        clear hO hcl hc1 hc2 m1 m2
        go_wp2_with (at_builtin; refine wpList_happ rfl _ _ rfl rfl (hO9.alloc _) _ 1 1 [(x1, x2)] rfl (hnts_new w9 (x1, x2)) (fun e => by cases e) (by omega) ?_)
        intro v2 w2 hO2 hgr2
        rw [← HN.out] at hO2
        go_wp2_with fail
        go_roundw
        case rel => exact ⟨k + 1, by go_num, by omega, hO2⟩
        case measure => simp [intOf]; omega
    · have hkn : k = n := by omega
      rw [hkn, List.take_of_length_le (by rw [HL.out]; exact Nat.le_refl _), HM.out] at hO
      obtain ⟨A5, n5, c5, rfl, hH5, hA5, hn5, hg5⟩ := hO.told2
      have hz := hTr.froz
      have hWs := hbW.size
      have HR5 := Lib.hid (hTr.set hH5 hA5 hn5 (fun b e => by have := hg5 b e; omega))
      have HU5 := Lib.hid ((Outs.of_below (F := (· = g)) (hbW.trans (hO.below.mono hbW.size))).setCell g 0 rfl (.slice A5 n5 c5))
      have hl5 := hH5.len
      have HG5 : Hid (∀ b, A5 = some ⟨b, 0, none⟩ → w.heap.size ≤ b) := fun b e => Nat.le_trans hWs (hg5 b e)
      have hrr : decide (n5 < n) = r := by rw [← HR.out, hl5, HL.out]
      clear hkn hTr hO hH5 hA5 hg5 hl5
      go_wp2_with fail
      go_ret
      exact ⟨_, _, _, rfl, HR5.out, HU5.out, Or.inr HG5.out⟩
end
end Go.Proofs.YtipdmfnkkkdlbaaGreatDoor
