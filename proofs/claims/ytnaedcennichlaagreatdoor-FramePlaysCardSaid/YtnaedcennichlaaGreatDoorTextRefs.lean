/-
  text: Count, Valid, Put, Get and their kin of the document's own answer.
-/
import Derived.Test.YtnaedcennichlaaGreatDoorTextRef
set_option linter.unusedSimpArgs false
set_option linter.unusedVariables false
namespace Go.Proofs.YtnaedcennichlaaGreatDoor
open Go.RowKit

theorem refCharacter_eq (L : List UInt8) (w : World) (hn : L ≠ []) (hl : L.length ≤ 9223372036854775807) (c : Int) (n : Nat) (h : chP L = (c, n)) :
    Calls Tryz.prog 81 #[.string ⟨L.toArray⟩] w fun e w' => e = .returned (.tuple #[.int .i64 c, .int .i64 n]) ∧ Below w.heap.size w w' := by
  cases L with
  | nil => exact absurd rfl hn
  | cons a l =>
    have := refCharacter_any a l (a :: l) w rfl hl
    rw [h] at this
    exact this

set_option maxHeartbeats 400000 in
theorem refCount_any (l : List UInt8) (w : World) (hl : l.length ≤ 9223372036854775807) :
    Calls Tryz.prog 72 #[.string ⟨l.toArray⟩] w fun e w' => e = .returned (.int .i64 (cntR l)) ∧ Below w.heap.size w w' := by
  by_cases hg : 65535 < l.length
  · go_enter Tryz.func72, Tryz.ntmps72
    go_wp2
    go_ret
    exact ⟨ret_int (cntR_great l hg).symm, Below.refl _ _⟩
  · have hR := Lib.hid (cntR_small l (by omega))
    go_enter Tryz.func72, Tryz.ntmps72
    go_wp2
    go_loopw [3, 4] (fun m p wr => ∃ (pos k : Nat), m = .int .i64 k ∧ p = .int .i64 pos ∧ k ≤ pos ∧ pos ≤ l.length ∧ Below w.heap.size w wr ∧ Hid (cntI l = cntK (l.drop pos) k)) (fun _ p _ => l.length - (intOf p).toNat)
    case atStart => exact ⟨0, 0, rfl, rfl, by omega, by omega, Below.refl _ _, cntK_0 l⟩
    case round =>
      obtain ⟨pos, k, rfl, rfl, hk, hpos, hb, hc⟩ := hrel
      by_cases hp : pos < l.length
      · have hne : Hid (l.drop pos ≠ []) := by
          intro h
          have := congrArg List.length h
          rw [List.length_drop] at this
          simp at this
          omega
        have hle := chN_le (l.drop pos)
        rw [List.length_drop] at hle
        have hch : chP (l.drop pos) = ((chP (l.drop pos)).1, chN (l.drop pos)) := rfl
        by_cases h0 : chN (l.drop pos) = 0
        · have HK := Lib.hid (cntK_none _ k hne.out h0)
          have H0 : Hid (chP (l.drop pos) = ((chP (l.drop pos)).1, 0)) := by rw [h0] at hch; exact hch
          clear h0 hch
          go_wp2_with fail
          refine (refCharacter_eq _ _ hne.out (by simp; omega) _ _ H0.out).mono ?_
          rintro e w1 ⟨rfl, hb1⟩
          replace hb := below_more hb hb1
          clear hb1
          go_wp2
          go_ret
          exact ⟨ret_int (by rw [hR.out, hc.out, HK.out]), hb⟩
        · have HK := Lib.hid (cntK_step _ k h0)
          obtain ⟨n, hn⟩ : ∃ n, n = chN (l.drop pos) := ⟨_, rfl⟩
          rw [← hn] at hch h0 hle
          have HN := Lib.hid hn
          have HC := Lib.hid hch
          have hn1 : ((n : Int) == 0) = false := by simp; omega
          clear hch hn
          go_wp2_with fail
          refine (refCharacter_eq _ _ hne.out (by simp; omega) _ _ HC.out).mono ?_
          rintro e w1 ⟨rfl, hb1⟩
          replace hb := below_more hb hb1
          clear hb1
          go_wp2
          go_roundw
          case rel => exact ⟨pos + n, k + 1, by go_num, by go_num, by omega, by omega, hb, by
            show _ = _
            rw [hc.out, HK.out, ← HN.out, List.drop_drop]⟩
          case measure => simp [intOf]; omega
      · have HE : Hid (l.drop pos = []) := List.drop_eq_nil_of_le (by omega)
        go_wp2
        go_ret
        exact ⟨ret_int (by rw [hR.out, hc.out, HE.out, cntK_end]), hb⟩

theorem refValid_eq (l : List UInt8) (b : Bool) (w : World) (hl : l.length ≤ 9223372036854775807) (h : valB l = b) :
    Calls Tryz.prog 58 #[.string ⟨l.toArray⟩] w fun e w' => e = .returned (.bool b) ∧ Below w.heap.size w w' := by
  have H := Lib.hid h
  clear h
  go_enter Tryz.func58, Tryz.ntmps58
  go_wp2_with fail
  refine (refCount_any l _ hl).mono ?_
  rintro e w' ⟨rfl, hb⟩
  go_wp2
  go_ret
  exact ⟨by rw [← H.out]; rfl, hb⟩

theorem refWords_eq (A : Option Addr) (n c : Nat) (xs : List Int) (bs : List UInt8) (er : Int) (w : World) (hx : Ints w A n xs) (hn : n ≤ 1000000) (h : wordsR xs = (bs, er)) :
    Calls Tryz.prog 60 #[.slice A n c] w fun e w' => e = .returned (.tuple #[.string ⟨bs.toArray⟩, .int .i64 er]) ∧ Below w.heap.size w w' := by
  have := refWords_any A n c xs w hx hn
  rw [h] at this
  exact this
theorem words_big (n : Int) (h1 : 65535 < n) : wordsR [n] = ([], 1) := wordsR_no _ (by simp [wordB]; omega)

theorem refPutData_no (l : List UInt8) (w : World) (h : 65535 < l.length) (hl : l.length ≤ 9223372036854775807) :
    Calls Tryz.prog 59 #[.string ⟨l.toArray⟩] w fun e w' => e = .returned (.tuple #[.string ⟨#[]⟩, .int .i64 3]) ∧ Below w.heap.size w w' := by
  have hb : Below w.heap.size w w := Below.refl _ _
  go_enter Tryz.func59, Tryz.ntmps59
  go_wp2_with fail
  refine (refWords_eq _ 1 _ [(l.length : Int)] _ 1 _ (ints_new1 _ _ _) (by omega) (words_big _ (by omega))).mono ?_
  rintro e w1 ⟨rfl, hb1⟩
  replace hb := below_more (below_alloc hb _) hb1
  clear hb1
  go_wp2
  go_ret2
  exact ⟨rfl, hb⟩
theorem refPutData_yes (l : List UInt8) (w : World) (h : l.length ≤ 65535) :
    Calls Tryz.prog 59 #[.string ⟨l.toArray⟩] w fun e w' => e = .returned (.tuple #[.string ⟨(fieldL l).toArray⟩, .int .i64 0]) ∧ Below w.heap.size w w' := by
  have hb : Below w.heap.size w w := Below.refl _ _
  have had := fun W => add_str (P := Tryz.prog) W [toB ((l.length : Int) / 256), toB ((l.length : Int) % 256)] l (by simp; omega)
  go_enter Tryz.func59, Tryz.ntmps59
  go_wp2_with fail
  refine (refWords_eq _ 1 _ [(l.length : Int)] _ 0 _ (ints_new1 _ _ _) (by omega) (words_one _ (by omega) (by omega))).mono ?_
  rintro e w1 ⟨rfl, hb1⟩
  replace hb := below_more (below_alloc hb _) hb1
  clear hb1
  go_wp2
  go_ret2
  exact ⟨rfl, hb⟩

theorem refReadWord_eq (l : List UInt8) (x n e : Int) (w : World) (hl : l.length ≤ 9223372036854775807) (h : rwR l = (x, n, e)) :
    Calls Tryz.prog 56 #[.string ⟨l.toArray⟩] w fun r w' => r = .returned (.tuple #[.int .i64 x, .int .i64 n, .int .i64 e]) ∧ Below w.heap.size w w' := by
  have := refReadWord_any l w hl
  rw [h] at this
  exact this
theorem refGetData_any (l : List UInt8) (w : World) (hl : l.length ≤ 1000000000) :
    Calls Tryz.prog 55 #[.string ⟨l.toArray⟩] w fun e w' => e = .returned (.tuple #[.string ⟨(getD l).1.toArray⟩, .int .i64 (getD l).2.1, .int .i64 (getD l).2.2]) ∧ Below w.heap.size w w' := by
  have hb : Below w.heap.size w w := Below.refl _ _
  by_cases h2 : l.length < 2
  · have hg : getD l = ([], 0, 2) ∧ rwR l = (0, 0, 2) := by
      rcases l with _ | ⟨a, _ | ⟨b, l⟩⟩
      · exact ⟨rfl, rfl⟩
      · exact ⟨rfl, rfl⟩
      · simp at h2; omega
    rw [hg.1]
    have HR := Lib.hid hg.2
    clear hg
    go_enter Tryz.func55, Tryz.ntmps55
    go_wp2_with fail
    refine (refReadWord_eq l 0 0 2 _ (by omega) HR.out).mono ?_
    rintro e w1 ⟨rfl, hb1⟩
    replace hb := below_more hb hb1
    clear hb1
    go_wp2
    go_ret3
    exact ⟨rfl, hb⟩
  · obtain ⟨a, b, r, hr⟩ : ∃ a b r, l = a :: b :: r := by
      rcases l with _ | ⟨a, _ | ⟨b, l⟩⟩
      · simp at h2
      · simp at h2
      · exact ⟨_, _, _, rfl⟩
    have hrl : l.length = r.length + 2 := by rw [hr]; rfl
    have ha : a.toNat < 256 := a.toNat_lt
    have hbb : b.toNat < 256 := b.toNat_lt
    have HR := Lib.hid hr
    have HW : Hid (rwR l = ((a.toNat : Int) * 256 + b.toNat, 2, 0)) := by rw [hr]; rfl
    clear hr
    by_cases h3 : (r.length : Int) < a.toNat * 256 + b.toNat
    · have hg : getD l = ([], 0, 2) := by rw [HR.out, getD, if_pos h3]
      rw [hg]
      clear hg
      have hd : decide ((l.length : Int) < 2 + (a.toNat * 256 + b.toNat)) = true := by simp; omega
      clear hrl
      go_enter Tryz.func55, Tryz.ntmps55
      go_wp2_with fail
      refine (refReadWord_eq l _ 2 0 _ (by omega) HW.out).mono ?_
      rintro e w1 ⟨rfl, hb1⟩
      replace hb := below_more hb hb1
      clear hb1
      go_wp2
      go_ret3
      exact ⟨rfl, hb⟩
    · have hg : getD l = (r.take (a.toNat * 256 + b.toNat), (a.toNat : Int) * 256 + b.toNat + 2, 0) := by rw [HR.out, getD, if_neg h3]
      rw [hg]
      clear hg
      have hd : decide ((l.length : Int) < 2 + (a.toNat * 256 + b.toNat)) = false := by simp; omega
      have hlen : 2 + (a.toNat * 256 + b.toNat) ≤ l.length := by omega
      have hex : (l.take (2 + (a.toNat * 256 + b.toNat))).drop 2 = r.take (a.toNat * 256 + b.toNat) := by
        rw [HR.out, Nat.add_comm 2]; rfl
      have HX := Lib.hid hex
      clear hex
      clear hrl
      go_enter Tryz.func55, Tryz.ntmps55
      go_wp2_with fail
      refine (refReadWord_eq l _ 2 0 _ (by omega) HW.out).mono ?_
      rintro e w1 ⟨rfl, hb1⟩
      replace hb := below_more hb hb1
      clear hb1
      go_wp2
      go_ret3
      exact ⟨by rw [HX.out]; simp; omega, hb⟩
theorem refGetData_eq (l x : List UInt8) (n e : Int) (w : World) (hl : l.length ≤ 1000000000) (h : getD l = (x, n, e)) :
    Calls Tryz.prog 55 #[.string ⟨l.toArray⟩] w fun r w' => r = .returned (.tuple #[.string ⟨x.toArray⟩, .int .i64 n, .int .i64 e]) ∧ Below w.heap.size w w' := by
  have := refGetData_any l w hl
  rw [h] at this
  exact this
end Go.Proofs.YtnaedcennichlaaGreatDoor
