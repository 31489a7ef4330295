/-
  text: what each function of the package answers.
-/
import Derived.Test.YtnaedcennichlaaGreatDoorKit
import Derived.Test.YtnaedcennichlaaGreatDoorMb
import Derived.Test.YtnaedcennichlaaGreatDoorTextFacts
import Derived.Test.YtnaedcennichlaaGreatDoorShelf
import Derived.Lib.OthersKept
import Derived.Lib.AppendStr
set_option linter.unusedSimpArgs false
set_option linter.unusedVariables false
namespace Go.Proofs.YtnaedcennichlaaGreatDoor
open Go.RowKit

theorem hasPre (l : List UInt8) : Lib.hasPrefix l replL = decide (replL <+: l) := by
  unfold Lib.hasPrefix
  rw [Bool.eq_iff_iff]
  simp
theorem isChar_any (r : Nat) (l : List UInt8) (w : World) (hr : r ≤ 2147483647) :
    Calls Tryz.prog 94 #[.int .i32 r, .string ⟨l.toArray⟩] w fun e w' => e = .returned (.bool (okRune r l)) ∧ w = w' := by
  by_cases h : r = 65533
  · subst h
    go_enter Tryz.func94, Tryz.ntmps94
    go_wp2_with fail
    refine (Tryz.strings_HasPrefix _ _ _).mono ?_
    rintro e w' ⟨rfl, rfl⟩
    go_wp2
    go_ret
    exact ⟨by rw [okRune, if_pos rfl, ← hasPre]; rfl, rfl⟩
  · have h1 : ((r : Int) == 65533) = false := by simp; omega
    go_enter Tryz.func94, Tryz.ntmps94
    go_wp2
    go_ret
    exact ⟨ret_bool (by rw [okRune, if_neg h, Bool.eq_iff_iff]; simp), rfl⟩
theorem isChar_eq (r : Nat) (l : List UInt8) (b : Bool) (w : World) (hr : r ≤ 2147483647) (h : okRune r l = b) :
    Calls Tryz.prog 94 #[.int .i32 r, .string ⟨l.toArray⟩] w fun e w' => e = .returned (.bool b) ∧ w = w' := h ▸ isChar_any r l w hr

set_option maxHeartbeats 400000 in
theorem textCount_any (l : List UInt8) (w : World) (hl : l.length ≤ 9223372036854775807) :
    Calls Tryz.prog 82 #[.string ⟨l.toArray⟩] w fun e w' => e = .returned (.int .i64 (cntR l)) ∧ Below w.heap.size w w' := by
  by_cases hg : 65535 < l.length
  · go_enter Tryz.func82, Tryz.ntmps82
    go_wp2
    go_ret
    exact ⟨ret_int (cntR_great l hg).symm, Below.refl _ _⟩
  · have hsz : (ByteArray.mk l.toArray).size = l.length := by show l.toArray.size = _; simp
    have hR := Lib.hid (cntR_small l (by omega))
    have hszH := Lib.hid hsz
    clear hsz
    go_enter Tryz.func82, Tryz.ntmps82
    go_wp2
    go_loopw [3] (fun n wr => ∃ (pos k : Nat), wr = w.iter ⟨l.toArray⟩ pos ∧ n = .int .i64 k ∧ k ≤ pos ∧ pos ≤ l.length ∧ Hid (cntI l = cntK (l.drop pos) k)) (fun _ wr => l.length - wr.iterPos w.heap.size)
    case atStart => exact ⟨0, 0, rfl, rfl, by omega, by omega, cntK_0 l⟩
    case round =>
      obtain ⟨pos, k, rfl, rfl, hk, hpos, hc⟩ := hrel
      by_cases hp : pos < l.length
      · have hnx : ∀ ty, (Instr.next (.pointer (some ⟨w.heap.size, 0, none⟩)) true ty).run Tryz.prog (w.iter ⟨l.toArray⟩ pos) = _ := fun ty => run_next_any w ⟨l.toArray⟩ pos ty (by rw [hszH.out]; exact hp)
        have hdl := decode_le ⟨l.toArray⟩ pos
        rw [dec_list l pos] at hnx hdl
        have hne : l.drop pos ≠ [] := by
          intro h
          have := congrArg List.length h
          rw [List.length_drop] at this
          simp at this
          omega
        have HD := Lib.hid (dec_ch (l.drop pos) hne)
        have hle := chN_le (l.drop pos)
        rw [List.length_drop] at hle
        by_cases h0 : chN (l.drop pos) = 0
        · have HK := Lib.hid (cntK_none _ k hne h0)
          have H0 := Lib.hid h0
          clear h0
          go_wp2_with fail
          refine (isChar_eq _ _ false _ hdl (HD.out.1 H0.out)).mono ?_
          rintro e w' ⟨rfl, rfl⟩
          go_wp2
          go_ret
          exact ⟨ret_int (by rw [hR.out, hc.out, HK.out]), (Below.refl _ _).alloc (Nat.le_refl _) _⟩
        · have HK := Lib.hid (cntK_step _ k h0)
          have H0 : Hid (_ ∧ _) := HD.out.2 h0
          have hpos1 : 0 < chN (l.drop pos) := by omega
          clear h0
          go_wp2_with fail
          refine (isChar_eq _ _ true _ hdl (H0.out.1)).mono ?_
          rintro e w' ⟨rfl, rfl⟩
          go_wp2
          go_roundw
          case rel => exact ⟨pos + chN (l.drop pos), k + 1, by rw [H0.out.2]; rfl, by go_num, by omega, by omega, by
            show _ = _
            rw [hc.out, HK.out, List.drop_drop]⟩
          case measure =>
            rw [H0.out.2]
            show _ - World.iterPos (w.iter ⟨l.toArray⟩ (pos + chN (l.drop pos))) _ < _
            simp
            omega
      · have hnx : ∀ ty, (Instr.next (.pointer (some ⟨w.heap.size, 0, none⟩)) true ty).run Tryz.prog (w.iter ⟨l.toArray⟩ pos) = _ := fun ty => run_next_end w ⟨l.toArray⟩ pos ty (by rw [hszH.out]; exact hp)
        have HE : Hid (l.drop pos = []) := List.drop_eq_nil_of_le (by omega)
        go_wp2
        go_ret
        exact ⟨ret_int (by rw [hR.out, hc.out, HE.out, cntK_end]), (Below.refl _ _).alloc (Nat.le_refl _) _⟩

theorem textValid_eq (l : List UInt8) (b : Bool) (w : World) (hl : l.length ≤ 9223372036854775807) (h : valB l = b) :
    Calls Tryz.prog 74 #[.string ⟨l.toArray⟩] w fun e w' => e = .returned (.bool b) ∧ Below w.heap.size w w' := by
  have H := Lib.hid h
  clear h
  go_enter Tryz.func74, Tryz.ntmps74
  go_wp2_with fail
  refine (textCount_any l _ hl).mono ?_
  rintro e w' ⟨rfl, hb⟩
  go_wp2
  go_ret
  exact ⟨by rw [← H.out]; rfl, hb⟩

/-- A field. -/
def fieldL (l : List UInt8) : List UInt8 := toB ((l.length : Int) / 256) :: toB ((l.length : Int) % 256) :: l
theorem fieldL_len (l : List UInt8) : (fieldL l).length = l.length + 2 := by simp [fieldL]
theorem words_one (n : Int) (h0 : 0 ≤ n) (h1 : n ≤ 65535) : wordsR [n] = ([toB (n / 256), toB (n % 256)], 0) := by
  rw [wordsR_yes _ (by simp [wordB]; omega)]; rfl

theorem clone_any (l : List UInt8) (w : World) (hl : l.length ≤ 281474976710656) :
    Calls Tryz.prog 78 #[.string ⟨l.toArray⟩] w fun e w' => e = .returned (.string ⟨l.toArray⟩) ∧ Below w.heap.size w w' := by
  go_enter Tryz.func78, Tryz.ntmps78
  go_wp2_with fail
  refine (Tryz.stringslite_Clone _ _ (by show l.toArray.size ≤ _; simpa using hl)).mono ?_
  rintro e w1 ⟨rfl, hb1⟩
  go_wp2
  go_ret
  exact ⟨rfl, hb1⟩

/-- What GetData answers. -/
def getD : List UInt8 → List UInt8 × Int × Int
  | a :: b :: r => if (r.length : Int) < a.toNat * 256 + b.toNat then ([], 0, 2) else (r.take (a.toNat * 256 + b.toNat), (a.toNat : Int) * 256 + b.toNat + 2, 0)
  | _ => ([], 0, 2)
theorem getData_any (l : List UInt8) (w : World) (hl : l.length ≤ 1000000000) :
    Calls Tryz.prog 73 #[.string ⟨l.toArray⟩] w fun e w' => e = .returned (.tuple #[.string ⟨(getD l).1.toArray⟩, .int .i64 (getD l).2.1, .int .i64 (getD l).2.2]) ∧ Below w.heap.size w w' := by
  have hb : Below w.heap.size w w := Below.refl _ _
  by_cases h2 : l.length < 2
  · have hg : getD l = ([], 0, 2) := by
      rcases l with _ | ⟨a, _ | ⟨b, l⟩⟩
      · rfl
      · rfl
      · simp at h2; omega
    rw [hg]
    clear hg
    go_enter Tryz.func73, Tryz.ntmps73
    go_wp2_with fail
    refine (numReadWord_no l _ h2).mono ?_
    rintro e w1 ⟨rfl, hb1⟩
    replace hb := below_more hb hb1
    clear hb1
    go_wp2
    go_ret3
    exact ⟨rfl, hb⟩
  · obtain ⟨a, b, r, hr⟩ : ∃ a b r, l = a :: b :: r := by
      rcases l with _ | ⟨a, _ | ⟨b, l⟩⟩
      · simp at h2
      · simp at h2
      · exact ⟨_, _, _, rfl⟩
    have hrl : l.length = r.length + 2 := by rw [hr]; rfl
    have ha := a.toNat_lt
    have hbb := b.toNat_lt
    have HR := Lib.hid hr
    clear hr
    by_cases h3 : (r.length : Int) < a.toNat * 256 + b.toNat
    · have hg : getD l = ([], 0, 2) := by rw [HR.out, getD, if_pos h3]
      rw [hg]
      clear hg
      have hd : decide ((l.length : Int) - 2 < a.toNat * 256 + b.toNat) = true := by simp; omega
      clear hrl
      go_enter Tryz.func73, Tryz.ntmps73
      go_wp2_with fail
      refine (numReadWord_yes l a b r _ HR.out (by omega)).mono ?_
      rintro e w1 ⟨rfl, hb1⟩
      replace hb := below_more hb hb1
      clear hb1
      go_wp2
      go_ret3
      exact ⟨rfl, hb⟩
    · have hg : getD l = (r.take (a.toNat * 256 + b.toNat), (a.toNat : Int) * 256 + b.toNat + 2, 0) := by rw [HR.out, getD, if_neg h3]
      rw [hg]
      clear hg
      have hd : decide ((l.length : Int) - 2 < a.toNat * 256 + b.toNat) = false := by simp; omega
      have hlen : 2 + (a.toNat * 256 + b.toNat) ≤ l.length := by omega
      have hex : (l.take (2 + (a.toNat * 256 + b.toNat))).drop 2 = r.take (a.toNat * 256 + b.toNat) := by
        rw [HR.out, Nat.add_comm 2]; rfl
      have HX := Lib.hid hex
      clear hex
      clear hrl
      go_enter Tryz.func73, Tryz.ntmps73
      go_wp2_with fail
      refine (numReadWord_yes l a b r _ HR.out (by omega)).mono ?_
      rintro e w1 ⟨rfl, hb1⟩
      replace hb := below_more hb hb1
      clear hb1
      go_wp2_with fail
      refine (clone_any _ _ (by simp; omega)).mono ?_
      rintro e w2 ⟨rfl, hb2⟩
      replace hb := below_more hb hb2
      clear hb2
      go_wp2
      go_ret3
      exact ⟨by rw [HX.out]; simp; omega, hb⟩

/-- What Get answers. -/
def getR (l : List UInt8) : List UInt8 × Int × Int :=
  if (getD l).2.2 = 0 then if valB (getD l).1 then getD l else ([], 0, 5) else getD l
theorem getD_err (l : List UInt8) (h : (getD l).2.2 ≠ 0) : getD l = ([], 0, 2) := by
  rcases l with _ | ⟨a, _ | ⟨b, l⟩⟩
  · rfl
  · rfl
  · simp only [getD] at h ⊢
    split
    · rfl
    · rename_i h1
      rw [if_neg h1] at h
      exact absurd rfl h
theorem getD_len (l : List UInt8) : (getD l).1.length ≤ l.length := by
  rcases l with _ | ⟨a, _ | ⟨b, l⟩⟩
  · simp [getD]
  · simp [getD]
  · simp only [getD]; split
    · simp
    · simp; omega
theorem getData_eq (l x : List UInt8) (n e : Int) (w : World) (hl : l.length ≤ 1000000000) (h : getD l = (x, n, e)) :
    Calls Tryz.prog 73 #[.string ⟨l.toArray⟩] w fun r w' => r = .returned (.tuple #[.string ⟨x.toArray⟩, .int .i64 n, .int .i64 e]) ∧ Below w.heap.size w w' := by
  have := getData_any l w hl
  rw [h] at this
  exact this
theorem get_any (l : List UInt8) (w : World) (hl : l.length ≤ 1000000000) :
    Calls Tryz.prog 62 #[.string ⟨l.toArray⟩] w fun e w' => e = .returned (.tuple #[.string ⟨(getR l).1.toArray⟩, .int .i64 (getR l).2.1, .int .i64 (getR l).2.2]) ∧ Below w.heap.size w w' := by
  have hb : Below w.heap.size w w := Below.refl _ _
  by_cases h0 : (getD l).2.2 = 0
  · have hlen := getD_len l
    generalize hg : getD l = g at h0 hlen
    obtain ⟨x, n, e⟩ := g
    simp only at h0 hlen
    subst h0
    have HG := Lib.hid hg
    clear hg
    cases hv : valB x with
    | true =>
      have hr : getR l = (x, n, 0) := by rw [getR, HG.out]; simp [hv]
      rw [hr]
      have HV := Lib.hid hv
      clear hr hv
      go_enter Tryz.func62, Tryz.ntmps62
      go_wp2_with fail
      refine (getData_eq l x n 0 _ hl HG.out).mono ?_
      rintro e w1 ⟨rfl, hb1⟩
      replace hb := below_more hb hb1
      clear hb1
      go_wp2_with fail
      refine (textValid_eq x true _ (by omega) HV.out).mono ?_
      rintro e w1 ⟨rfl, hb1⟩
      replace hb := below_more hb hb1
      clear hb1
      go_wp2
      go_ret3
      exact ⟨rfl, hb⟩
    | false =>
      have hr : getR l = ([], 0, 5) := by rw [getR, HG.out]; simp [hv]
      rw [hr]
      have HV := Lib.hid hv
      clear hr hv
      go_enter Tryz.func62, Tryz.ntmps62
      go_wp2_with fail
      refine (getData_eq l x n 0 _ hl HG.out).mono ?_
      rintro e w1 ⟨rfl, hb1⟩
      replace hb := below_more hb hb1
      clear hb1
      go_wp2_with fail
      refine (textValid_eq x false _ (by omega) HV.out).mono ?_
      rintro e w1 ⟨rfl, hb1⟩
      replace hb := below_more hb hb1
      clear hb1
      go_wp2
      go_ret3
      exact ⟨rfl, hb⟩
  · have hr : getR l = ([], 0, 2) := by rw [getR, if_neg h0, getD_err l h0]
    have HG := Lib.hid (getD_err l h0)
    rw [hr]
    clear hr h0
    go_enter Tryz.func62, Tryz.ntmps62
    go_wp2_with fail
    refine (getData_eq l [] 0 2 _ hl HG.out).mono ?_
    rintro e w1 ⟨rfl, hb1⟩
    replace hb := below_more hb hb1
    clear hb1
    go_wp2
    go_ret3
    exact ⟨rfl, hb⟩

section
variable {E : TypeId} {B : Nat} {w0 wr : World} {v : Value} {l : List UInt8}
end
end Go.Proofs.YtnaedcennichlaaGreatDoor
