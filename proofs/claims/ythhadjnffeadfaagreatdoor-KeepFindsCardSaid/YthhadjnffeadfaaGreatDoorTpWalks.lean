/-
  topic: what each function of the package answers.
-/
import Derived.Test.YthhadjnffeadfaaGreatDoorTpMath
import Derived.Test.YthhadjnffeadfaaGreatDoorPkLib
import Derived.Deep.RegionHeld3
set_option linter.unusedSimpArgs false
set_option linter.unusedVariables false
namespace Go.Proofs.YthhadjnffeadfaaGreatDoor
open Go.RowKit


/-- A slice of strings that is told. -/
def LVP (w : World) (L : List (List UInt8)) (e : Ending) (w' : World) : Prop :=
  ∃ b c : Nat, e = .returned (.slice (some ⟨b, 0, none⟩) L.length c) ∧ L.length ≤ c ∧ Strs w' (some ⟨b, 0, none⟩) L.length L ∧ Below w.heap.size w w'
theorem tpLevels_eq (l : List UInt8) (L : List (List UInt8)) (w : World) (hG : Glo w) (hl : l.length ≤ 1000000000) (h : levs l = L) :
    Calls Tryz.prog 49 #[.string ⟨l.toArray⟩] w fun e w' => LVP w L e w' := by
  obtain ⟨m, hm⟩ := hG
  have H : Hid (splitL l = L) := by show _ = _; rw [levs_split]; exact h
  have HM := Lib.hid hm
  clear h hm
  go_enter Tryz.func49, Tryz.ntmps49
  go_wp2_with fail
  refine (split_any l m _ HM.out hl).mono ?_
  rintro e w1 ⟨g, rfl, hs, hb⟩
  rw [H.out] at hs ⊢
  go_wp2_with fail
  go_ret
  exact ⟨g, _, rfl, Nat.le_refl _, hs, hb⟩
theorem hasWild_eq (l : List UInt8) (b : Bool) (w : World) (hl : l.length ≤ 1000000000) (h : plB l = b) :
    Calls Tryz.prog 31 #[.string ⟨l.toArray⟩] w fun e w' => e = .returned (.bool (!b)) ∧ Below w.heap.size w w' := by
  have H : Hid (hasW l = !b) := by show _ = _; rw [pl_has, h]
  clear h
  go_enter Tryz.func31, Tryz.ntmps31
  go_wp2_with fail
  refine (contAny_eq l (!b) _ hl H.out).mono ?_
  rintro e w1 ⟨rfl, hb⟩
  go_wp2_with fail
  go_ret
  exact ⟨rfl, hb⟩
theorem levCov_eq (a b : List UInt8) (c : Bool) (w : World) (h : lcB a b = c) :
    Calls Tryz.prog 63 #[.string ⟨a.toArray⟩, .string ⟨b.toArray⟩] w fun e w' => e = .returned (.bool c) ∧ w' = w := by
  by_cases ha : a = [43]
  · subst ha
    have H : Hid ((b != [35]) = c) := h
    clear h
    go_enter Tryz.func63, Tryz.ntmps63
    go_wp2_with fail
    go_ret
    exact ⟨by rw [← H.out]; rfl, rfl⟩
  · have hn : (a == [43]) = false := by simpa using ha
    have H : Hid ((a == b) = c) := by show _ = _; rw [← h, lc_other a b hn]
    clear h ha
    go_enter Tryz.func63, Tryz.ntmps63
    go_wp2_with fail
    go_ret
    exact ⟨by rw [← H.out]; rfl, rfl⟩
theorem cut_head (l : List UInt8) : (Lib.cut l [47]).1 = headL l := by
  unfold headL
  rw [← levs_split]
  unfold Lib.cut
  rcases index_slash l with ⟨h1, h2⟩ | ⟨i, h0, h1, h2⟩
  · rw [h1, h2, if_neg (by decide)]; rfl
  · rw [h1, h2, if_pos (by omega)]; rfl
theorem head_len (l : List UInt8) : (headL l).length ≤ l.length := by
  have := splitL_le l (headL l) (by rw [levs_split]; unfold headL; rw [levs_cons l]; simp)
  exact this
theorem firstLev_eq (l x : List UInt8) (w : World) (hG : Glo w) (hl : l.length ≤ 1000000000) (h : headL l = x) :
    Calls Tryz.prog 60 #[.string ⟨l.toArray⟩] w fun e w' => e = .returned (.string ⟨x.toArray⟩) ∧ Below w.heap.size w w' := by
  have hsz : (ByteArray.mk l.toArray).size = l.length := by show l.toArray.size = _; simp
  obtain ⟨m, hm⟩ := hG
  have H : Hid ((Lib.cut l [47]).1 = x) := by show _ = _; rw [cut_head]; exact h
  have HM := Lib.hid hm
  have HZ : Hid ((ByteArray.mk l.toArray).size < 4294967281) := by show _ < _; rw [hsz]; omega
  clear h hm hsz
  go_enter Tryz.func60, Tryz.ntmps60
  go_wp2_with fail
  refine (Tryz.strings_Cut _ _ m _ HZ.out HM.out).mono ?_
  rintro e w1 ⟨rfl, n, rfl⟩
  go_wp2_with fail
  go_ret
  exact ⟨ret_str (by simpa using H.out), below_drewN (Below.refl _ _) n⟩
theorem startsWild_eq (l : List UInt8) (b : Bool) (w : World) (hG : Glo w) (hl : l.length ≤ 1000000000) (h : wilB l = b) :
    Calls Tryz.prog 46 #[.string ⟨l.toArray⟩] w fun e w' => e = .returned (.bool b) ∧ Below w.heap.size w w' := by
  have hh := head_len l
  have H : Hid (plB (headL l) = !b) := by
    show _ = _
    have h2 : (!plB (headL l)) = b := h
    rw [← h2]; simp
  have HG := Lib.hid hG
  clear h hG
  go_enter Tryz.func46, Tryz.ntmps46
  go_wp2_with fail
  refine (firstLev_eq l _ _ HG.out hl rfl).mono ?_
  rintro e w1 ⟨rfl, hb⟩
  go_wp2_with fail
  refine (hasWild_eq _ _ _ (by omega) H.out).mono ?_
  rintro e w2 ⟨rfl, hb2⟩
  replace hb := below_more hb hb2
  clear hb2
  go_wp2_with fail
  go_ret
  exact ⟨by simp, hb⟩
set_option maxHeartbeats 400000 in
theorem wcFit_eq (A : Option Addr) (n c : Nat) (xs : List (List UInt8)) (b : Bool) (w : World) (hs : Strs w A n xs) (hn : n ≤ 1000000000) (hm : Hid (∀ x ∈ xs, x.length ≤ 1000000000)) (h : fitL xs = b) :
    Calls Tryz.prog 59 #[.slice A n c] w fun e w' => e = .returned (.bool b) ∧ Below w.heap.size w w' := by
  have H := Lib.hid h
  clear h
  have hlen := hs.len
  have HL := Lib.hid hlen
  clear hlen
  go_enter Tryz.func59, Tryz.ntmps59
  go_wp2_with fail
  go_loopw [3, 4, 5, 6, 9] (fun _ _ _ _ i wr => ∃ k : Nat, i = .int .i64 k ∧ k ≤ n ∧ Below w.heap.size w wr ∧ Hid (fitL (xs.drop k) = b)) (fun _ _ _ _ i _ => n - (intOf i).toNat)
  case atStart => exact ⟨0, rfl, by omega, Below.refl _ _, H.out⟩
  case round =>
    obtain ⟨k, rfl, hk, hb, hc⟩ := hrel
    have hs2 := hs.below hb
    by_cases hlt : k < n
    · obtain ⟨bk, off, x, rfl, hx, hcell⟩ := hs2.at_ hlt
      have hxl := hm.out x (List.mem_of_getElem? hx)
      have HD := Lib.hid (fit_drop xs k x hx)
      clear hs2 hx
      cases hp : plB x with
      | true =>
        have HP := Lib.hid hp
        rw [hp] at HD
        have h43 : (x == [43]) = false := by simpa using (pl_ne x hp).1
        have h35 : (x == [35]) = false := by simpa using (pl_ne x hp).2
        have HN : Hid (fitL (xs.drop (k + 1)) = b) := by show _ = _; rw [← hc.out, HD.out]; rfl
        clear hp
        go_wp2_with fail
        refine (hasWild_eq x true _ hxl HP.out).mono ?_
        rintro e w1 ⟨rfl, hb1⟩
        have hb2 := below_more hb hb1
        clear hb1
        go_wp2_with fail
        go_roundw
        case rel => exact ⟨k + 1, by go_num, by omega, hb2, HN.out⟩
        case measure => simp [intOf]; omega
      | false =>
        have HP := Lib.hid hp
        rw [hp] at HD
        clear hp
        cases h43 : x == [43] with
        | true =>
          rw [h43] at HD
          have HN : Hid (fitL (xs.drop (k + 1)) = b) := by show _ = _; rw [← hc.out, HD.out]; rfl
          clear HD
          go_wp2_with fail
          refine (hasWild_eq x false _ hxl HP.out).mono ?_
          rintro e w1 ⟨rfl, hb1⟩
          have hb2 := below_more hb hb1
          clear hb1
          go_wp2_with fail
          go_roundw
          case rel => exact ⟨k + 1, by go_num, by omega, hb2, HN.out⟩
          case measure => simp [intOf]; omega
        | false =>
          rw [h43] at HD
          cases h35 : x == [35] with
          | false =>
            rw [h35] at HD
            have HN : Hid (b = false) := by show _ = _; rw [← hc.out, HD.out]; rfl
            clear HD
            go_wp2_with fail
            refine (hasWild_eq x false _ hxl HP.out).mono ?_
            rintro e w1 ⟨rfl, hb1⟩
            have hb2 := below_more hb hb1
            clear hb1
            go_wp2_with fail
            go_ret
            exact ⟨by rw [HN.out]; rfl, hb2⟩
          | true =>
            rw [h35] at HD
            by_cases hl : k + 1 = n
            · have hlb : ((k : Int) == (n : Int) - 1) = true := by simp; omega
              have HN : Hid (fitL (xs.drop (k + 1)) = b) := by show _ = _; rw [← hc.out, HD.out, HL.out, decide_eq_true hl]; rfl
              clear HD hl
              go_wp2_with fail
              refine (hasWild_eq x false _ hxl HP.out).mono ?_
              rintro e w1 ⟨rfl, hb1⟩
              have hb2 := below_more hb hb1
              clear hb1
              go_wp2_with fail
              go_roundw
              case rel => exact ⟨k + 1, by go_num, by omega, hb2, HN.out⟩
              case measure => simp [intOf]; omega
            · have hlb : ((k : Int) == (n : Int) - 1) = false := by simp; omega
              have HN : Hid (b = false) := by show _ = _; rw [← hc.out, HD.out, HL.out, decide_eq_false hl]; rfl
              clear HD hl
              go_wp2_with fail
              refine (hasWild_eq x false _ hxl HP.out).mono ?_
              rintro e w1 ⟨rfl, hb1⟩
              have hb2 := below_more hb hb1
              clear hb1
              go_wp2_with fail
              go_ret
              exact ⟨by rw [HN.out]; rfl, hb2⟩
    · have HN : Hid (b = true) := by
        show _ = _
        rw [← hc.out, List.drop_eq_nil_of_le (by rw [HL.out]; omega)]; rfl
      clear hs2
      go_wp2_with fail
      go_ret
      exact ⟨by rw [HN.out]; rfl, hb⟩
end Go.Proofs.YthhadjnffeadfaaGreatDoor
