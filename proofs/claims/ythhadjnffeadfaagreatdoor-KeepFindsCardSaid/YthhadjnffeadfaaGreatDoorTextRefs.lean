/-
  text: Count, Valid, Put, Get and their kin of the document's own answer.
-/
import Derived.Test.YthhadjnffeadfaaGreatDoorTextRef
set_option linter.unusedSimpArgs false
set_option linter.unusedVariables false
namespace Go.Proofs.YthhadjnffeadfaaGreatDoor
open Go.RowKit

theorem refCharacter_eq (L : List UInt8) (w : World) (hn : L ≠ []) (hl : L.length ≤ 9223372036854775807) (c : Int) (n : Nat) (h : chP L = (c, n)) :
    Calls Tryz.prog 55 #[.string ⟨L.toArray⟩] w fun e w' => e = .returned (.tuple #[.int .i64 c, .int .i64 n]) ∧ Below w.heap.size w w' := by
  cases L with
  | nil => exact absurd rfl hn
  | cons a l =>
    have := refCharacter_any a l (a :: l) w rfl hl
    rw [h] at this
    exact this

set_option maxHeartbeats 400000 in
theorem refCount_any (l : List UInt8) (w : World) (hl : l.length ≤ 9223372036854775807) :
    Calls Tryz.prog 40 #[.string ⟨l.toArray⟩] w fun e w' => e = .returned (.int .i64 (cntR l)) ∧ Below w.heap.size w w' := by
  by_cases hg : 65535 < l.length
  · go_enter Tryz.func40, Tryz.ntmps40
    go_wp2
    go_ret
    exact ⟨ret_int (cntR_great l hg).symm, Below.refl _ _⟩
  · have hR := Lib.hid (cntR_small l (by omega))
    go_enter Tryz.func40, Tryz.ntmps40
    go_wp2
    go_loopw [3, 4] (fun m p wr => ∃ (pos k : Nat), m = .int .i64 k ∧ p = .int .i64 pos ∧ k ≤ pos ∧ pos ≤ l.length ∧ Below w.heap.size w wr ∧ Hid (cntI l = cntK (l.drop pos) k)) (fun _ p _ => l.length - (intOf p).toNat)
    case atStart => exact ⟨0, 0, rfl, rfl, by omega, by omega, Below.refl _ _, cntK_0 l⟩
    case round =>
      obtain ⟨pos, k, rfl, rfl, hk, hpos, hb, hc⟩ := hrel
      by_cases hp : pos < l.length
      · have hne : Hid (l.drop pos ≠ []) := by
          intro h
          have := congrArg List.length h
          rw [List.length_drop] at this
          simp at this
          omega
        have hle := chN_le (l.drop pos)
        rw [List.length_drop] at hle
        have hch : chP (l.drop pos) = ((chP (l.drop pos)).1, chN (l.drop pos)) := rfl
        by_cases h0 : chN (l.drop pos) = 0
        · have HK := Lib.hid (cntK_none _ k hne.out h0)
          have H0 : Hid (chP (l.drop pos) = ((chP (l.drop pos)).1, 0)) := by rw [h0] at hch; exact hch
          clear h0 hch
          go_wp2_with fail
          refine (refCharacter_eq _ _ hne.out (by simp; omega) _ _ H0.out).mono ?_
          rintro e w1 ⟨rfl, hb1⟩
          replace hb := below_more hb hb1
          clear hb1
          go_wp2
          go_ret
          exact ⟨ret_int (by rw [hR.out, hc.out, HK.out]), hb⟩
        · have HK := Lib.hid (cntK_step _ k h0)
          obtain ⟨n, hn⟩ : ∃ n, n = chN (l.drop pos) := ⟨_, rfl⟩
          rw [← hn] at hch h0 hle
          have HN := Lib.hid hn
          have HC := Lib.hid hch
          have hn1 : ((n : Int) == 0) = false := by simp; omega
          clear hch hn
          go_wp2_with fail
          refine (refCharacter_eq _ _ hne.out (by simp; omega) _ _ HC.out).mono ?_
          rintro e w1 ⟨rfl, hb1⟩
          replace hb := below_more hb hb1
          clear hb1
          go_wp2
          go_roundw
          case rel => exact ⟨pos + n, k + 1, by go_num, by go_num, by omega, by omega, hb, by
            show _ = _
            rw [hc.out, HK.out, ← HN.out, List.drop_drop]⟩
          case measure => simp [intOf]; omega
      · have HE : Hid (l.drop pos = []) := List.drop_eq_nil_of_le (by omega)
        go_wp2
        go_ret
        exact ⟨ret_int (by rw [hR.out, hc.out, HE.out, cntK_end]), hb⟩

theorem refValid_eq (l : List UInt8) (b : Bool) (w : World) (hl : l.length ≤ 9223372036854775807) (h : valB l = b) :
    Calls Tryz.prog 32 #[.string ⟨l.toArray⟩] w fun e w' => e = .returned (.bool b) ∧ Below w.heap.size w w' := by
  have H := Lib.hid h
  clear h
  go_enter Tryz.func32, Tryz.ntmps32
  go_wp2_with fail
  refine (refCount_any l _ hl).mono ?_
  rintro e w' ⟨rfl, hb⟩
  go_wp2
  go_ret
  exact ⟨by rw [← H.out]; rfl, hb⟩

theorem words_big (n : Int) (h1 : 65535 < n) : wordsR [n] = ([], 1) := wordsR_no _ (by simp [wordB]; omega)

theorem add_strs {P : Program} (w : World) (a b : List UInt8) (h : a.length + b.length ≤ 9223372036854775807) : (Op.stringOp .add ⟨a.toArray⟩ ⟨b.toArray⟩).run P w = .ok (.string ⟨(a ++ b).toArray⟩) w := add_str w a b h
end Go.Proofs.YthhadjnffeadfaaGreatDoor
