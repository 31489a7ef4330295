/-
  NumRow: the law's walk.
-/
import Derived.Test.YtakknofacikiaaaNumWords
namespace Go.Proofs.Ytakknofacikiaaa
open Go.RowKit

theorem numRow_great1 (A : Option Addr) (n c : Nat) (A2 : Option Addr) (n2 c2 : Nat) (w : World) (hn : 300 < n) (hn2 : n ≤ 9223372036854775807) :
    Calls Try.prog 8 #[.slice A n c, .slice A2 n2 c2] w fun e w' => e = .returned (.bool true) ∧ Below w.heap.size w w' := by
  have hb : Below w.heap.size w w := Below.refl _ _
  have hd : decide ((300 : Int) < (n : Int)) = true := by simp; omega
  go_enter Try.func8, Try.ntmps8
  go_wp2_with fail
  refine (awake_any _).mono ?_
  rintro e w1 ⟨rfl, hb1⟩
  replace hb := below_more hb hb1
  clear hb1
  go_wp2_with fail
  go_ret
  exact ⟨rfl, hb⟩
theorem numRow_great2 (A : Option Addr) (n c : Nat) (A2 : Option Addr) (n2 c2 : Nat) (w : World) (hn : n ≤ 300) (hn2 : 300 < n2) (hn3 : n2 ≤ 9223372036854775807) :
    Calls Try.prog 8 #[.slice A n c, .slice A2 n2 c2] w fun e w' => e = .returned (.bool true) ∧ Below w.heap.size w w' := by
  have hb : Below w.heap.size w w := Below.refl _ _
  have hd : decide ((300 : Int) < (n : Int)) = false := by simp; omega
  have hd2 : decide ((300 : Int) < (n2 : Int)) = true := by simp; omega
  go_enter Try.func8, Try.ntmps8
  go_wp2_with fail
  refine (awake_any _).mono ?_
  rintro e w1 ⟨rfl, hb1⟩
  replace hb := below_more hb hb1
  clear hb1
  go_wp2_with fail
  go_ret
  exact ⟨rfl, hb⟩

theorem words_app (xs ys : List Int) : wordsL (xs ++ ys) = wordsL xs ++ wordsL ys := by simp [wordsL]
theorem words_drop (ls : List Int) (k : Nat) (x : Int) (h : ls[k]? = some x) : ∃ r, (wordsL ls).drop (2 * k) = toB (x / 256) :: toB (x % 256) :: r := by
  induction ls generalizing k with
  | nil => simp at h
  | cons y ls ih =>
    match k, h with
    | 0, h => simp at h; subst h; exact ⟨wordsL ls, by simp [wordsL]⟩
    | k + 1, h =>
      simp at h
      obtain ⟨r, hr⟩ := ih k h
      exact ⟨r, by rw [show 2 * (k + 1) = 2 * k + 2 from by omega]; simpa [wordsL] using hr⟩
theorem word_back (x : Int) (h0 : 0 ≤ x) (h1 : x ≤ 65535) : ((toB (x / 256)).toNat : Int) * 256 + (toB (x % 256)).toNat = x := by
  rw [toB_toNat _ (by omega) (by omega), toB_toNat _ (by omega) (by omega)]; omega

set_option maxRecDepth 100000 in
set_option maxHeartbeats 1000000 in
theorem numRow_go (A : Option Addr) (n c : Nat) (xs : List Int) (A2 : Option Addr) (n2 c2 : Nat) (ys : List Int) (w : World) (hx : Ints w A n xs) (hc0 : A = none → c = 0) (hn : n ≤ 300) (hy : Ints w A2 n2 ys) (hc2 : A2 = none → c2 = 0) (hn2 : n2 ≤ 300) :
    Calls Try.prog 8 #[.slice A n c, .slice A2 n2 c2] w fun e w' => e = .returned (.bool true) ∧ Below w.heap.size w w' := by
  have hd : decide ((300 : Int) < (n : Int)) = false := by simp; omega
  have hd2 : decide ((300 : Int) < (n2 : Int)) = false := by simp; omega
  have hxl := Lib.hid hx.len
  have hyl := Lib.hid hy.len
  have hxm : xs.length ≤ 300 := by have := hx.len; omega
  have hym : ys.length ≤ 300 := by have := hy.len; omega
  go_enter Try.func8, Try.ntmps8
  go_wp2_with (at_builtin; refine wpList_iapp (o := ⟨some 32, _, _, _, _, _⟩) (w0 := w) (B := w.heap.size) rfl _ _ 38 rfl Try.underlying38 info64 rfl (OwnI.nil (Below.refl _ _) (Nat.le_refl _)) A n c xs rfl hx hc0 (by simp; omega) ?_)
  intro v1 w1 ho
  go_wp2_with (at_builtin; refine wpList_iapp (o := ⟨some 35, _, _, _, _, _⟩) rfl _ _ 38 rfl Try.underlying38 info64 rfl ho A2 n2 c2 ys rfl (hy.below ho.below) hc2 (by omega) ?_)
  intro v2 w2 ho2
  obtain ⟨A1, m, c1, rfl, hI1⟩ := ho2.form
  have hb := ho2.below
  obtain ⟨ls, hls⟩ : ∃ ls, ls = xs ++ ys := ⟨_, rfl⟩
  rw [← hls] at hI1
  have hml := Lib.hid hI1.len
  have hlm : m ≤ 600 := by rw [← hI1.len, hls]; simp; omega
  have Hls := Lib.hid hls
  clear hls
  clear ho ho2
  go_wp2_with fail
  go_loop [6, 7] (fun q i => ∃ (k : Nat) (t : Bool), k ≤ m ∧ i = .int .i64 k ∧ q = .bool t ∧ Hid (t = (ls.take k).all wordB)) (fun _ i => m - (intOf i).toNat)
  case atStart => exact ⟨0, true, by omega, rfl, rfl, by simp [Hid]⟩
  case round =>
    obtain ⟨k, t, hk, rfl, rfl, ht⟩ := hrel
    by_cases hlt : k < m
    · obtain ⟨b, off, x, rfl, hxk, hcell⟩ := hI1.at_ hlt
      have hkI : (k : Int) < (m : Int) := by omega
      have htk : (ls.take (k + 1)).all wordB = ((ls.take k).all wordB && wordB x) := by rw [List.take_add_one, hxk, List.all_append]; simp
      have htk := Lib.hid htk
      clear hxk
      by_cases htt : t = true
      · subst htt
        by_cases h0 : 0 ≤ x
        · have hd0 : decide (0 ≤ x) = true := by simpa using h0
          by_cases h1 : x ≤ 65535
          · have hd1 : decide (x ≤ 65535) = true := by simpa using h1
            go_wp2_with fail
            go_round
            case rel => exact ⟨k + 1, true, by omega, by go_num, rfl, by show _ = _; rw [htk.out, ← ht.out]; simp [wordB, hd0, hd1]⟩
            case measure => simp [intOf]; omega
          · have hd1 : decide (x ≤ 65535) = false := by simpa using h1
            go_wp2_with fail
            go_round
            case rel => exact ⟨k + 1, false, by omega, by go_num, rfl, by show _ = _; rw [htk.out, ← ht.out]; simp [wordB, hd0, hd1]⟩
            case measure => simp [intOf]; omega
        · have hd0 : decide (0 ≤ x) = false := by simpa using h0
          go_wp2_with fail
          go_round
          case rel => exact ⟨k + 1, false, by omega, by go_num, rfl, by show _ = _; rw [htk.out, ← ht.out]; simp [wordB, hd0]⟩
          case measure => simp [intOf]; omega
      · have htf : t = false := by simpa using htt
        subst htf
        go_wp2_with fail
        go_round
        case rel => exact ⟨k + 1, false, by omega, by go_num, rfl, by show _ = _; rw [htk.out, ← ht.out]; simp⟩
        case measure => simp [intOf]; omega
    · obtain rfl : k = m := by omega
      have htl : Hid (t = ls.all wordB) := by show _ = _; rw [ht.out, List.take_of_length_le (by have := hml.out; omega)]
      by_cases htt : t = true
      · subst htt
        have hal : ls.all wordB = true := htl.out.symm
        have hax : xs.all wordB = true ∧ ys.all wordB = true := by
          rw [Hls.out, List.all_append] at hal
          simpa using hal
        obtain ⟨S, hSd⟩ : ∃ S, S = wordsL ls := ⟨_, rfl⟩
        have hS : S = wordsL xs ++ wordsL ys := by rw [hSd, Hls.out, words_app]
        have hSe : (S == wordsL xs ++ wordsL ys) = true := by simp [hS]
        have hSl : Hid (S.length = 2 * k) := by show _ = _; rw [hSd, words_len, hml.out]
        have hSN : ((S.length : Int) != 2 * (k : Int)) = false := by have := hSl.out; simp; omega
        have hSk : 2 * k ≤ S.length := by have := hSl.out; omega
        have hSm : S.length ≤ 1200 := by have := hSl.out; omega
        have hSM : Hid (S.length % 2 = 0) := by have := hSl.out; show _ = _; omega
        have hXm : (wordsL xs).length ≤ 600 := by rw [words_len]; omega
        have hYm : (wordsL ys).length ≤ 600 := by rw [words_len]; omega
        have hwls : Hid (wordsR ls = (S, 0)) := by show _ = _; rw [wordsR_yes ls hal, hSd]
        have hwxs := Lib.hid (wordsR_yes xs hax.1)
        have hwys := Lib.hid (wordsR_yes ys hax.2)
        have hdr0 := words_drop ls
        rw [← hSd] at hdr0
        have hdr := Lib.hid hdr0
        clear hdr0
        have hwd : Hid (∀ (j : Nat) (x : Int), ls[j]? = some x → 0 ≤ x ∧ x ≤ 65535) := fun j x hj => wordB_yes x (List.all_eq_true.1 hal x (List.mem_of_getElem? hj))
        clear hS hSd
        clear hal hax
        go_wp2_with fail
        refine (numWords_eq A1 _ _ ls _ _ _ hI1 (by omega) hwls.out).mono ?_
        rintro e w3 ⟨rfl, hb3⟩
        have hI3 := hI1.below hb3
        replace hb := below_more hb hb3
        clear hb3
        go_wp2_with fail
        refine (numWords_eq A n c xs _ _ _ (hx.below hb) (by omega) hwxs.out).mono ?_
        rintro e w4 ⟨rfl, hb4⟩
        have hI4 := hI3.below hb4
        replace hb := below_more hb hb4
        clear hb4
        go_wp2_with fail
        refine (numWords_eq A2 n2 c2 ys _ _ _ (hy.below hb) (by omega) hwys.out).mono ?_
        rintro e w5 ⟨rfl, hb5⟩
        have hI5 := hI4.below hb5
        replace hb := below_more hb hb5
        clear hb5 hI3 hI4
        have had := fun W => add_str (P := Try.prog) W (wordsL xs) (wordsL ys) (by omega)
        go_wp2_with fail
        clear had
        go_loopw [14] (fun i wr => ∃ j : Nat, j ≤ k ∧ i = .int .i64 j ∧ Ints wr A1 k ls ∧ Below w.heap.size w wr) (fun i _ => k - (intOf i).toNat)
        case atStart => exact ⟨0, by omega, rfl, hI5, hb⟩
        case round =>
          clear hI5 hb
          obtain ⟨j, hj, rfl, hI6, hb⟩ := hrel
          by_cases hjlt : j < k
          · obtain ⟨b, off, x, rfl, hxj, hcell⟩ := hI6.at_ hjlt
            have hx01 := hwd.out j x hxj
            obtain ⟨r, hr⟩ := hdr.out j x hxj
            have Hr := Lib.hid hr
            clear hr hxj
            have hjI : (j : Int) < (k : Int) := by omega
            go_wp2_with fail
            refine (numReadWord_yes _ _ _ _ _ Hr.out (by simp; omega)).mono ?_
            rw [word_back x hx01.1 hx01.2]
            rintro e w6 ⟨rfl, hb6⟩
            have hI7 := hI6.below hb6
            have hcell7 := (hb6.cell (World.block_lt_of_cell? _ _ hcell)).trans hcell
            replace hb := below_more hb hb6
            clear hb6 hI6 hcell
            go_wp2_with fail
            go_roundw
            case rel => exact ⟨j + 1, by omega, by go_num, hI7, hb⟩
            case measure => simp [intOf]; omega
          · have hm0 : (S.length : Int) % 2 = 0 := by have := hSM.out; omega
            have hm1 : (S.length : Int).tmod 2 = 0 := by rw [Int.tmod_eq_emod_of_nonneg (by omega)]; exact hm0
            have hcv := fun W => conv_new1 (P := Try.prog) (S := 9) Try.underlying42 Try.underlying5 Try.underlying9 W 7 (by omega) (by omega)
            have hcvd := fun W => conv_new1d (P := Try.prog) (S := 9) Try.underlying42 Try.underlying5 Try.underlying9 W 7 (by omega) (by omega)
            go_wp2_with fail
            go_region_with (go_at_call 12; refine (numReadWord_no [toB 7] _ (by decide)).mono ?_; rintro e w6 ⟨rfl, hb6⟩)
            replace hb := below_more ((below_alloc hb (.cells #[.int .u8 7] 5)).drew) hb6
            clear hb6
            go_wp2_with fail
            refine (awake_any _).mono ?_
            rintro e w1 ⟨rfl, hb1⟩
            replace hb := below_more hb hb1
            clear hb1
            go_wp2_with fail
            go_ret
            exact ⟨rfl, hb⟩
      · have htf : t = false := by simpa using htt
        subst htf
        go_wp2_with fail
        refine (numWords_eq A1 _ _ ls [] 1 _ hI1 (by omega) (wordsR_no ls htl.out.symm)).mono ?_
        rintro e w1 ⟨rfl, hb1⟩
        replace hb := below_more hb hb1
        clear hb1
        go_wp2_with fail
        refine (awake_any _).mono ?_
        rintro e w1 ⟨rfl, hb1⟩
        replace hb := below_more hb hb1
        clear hb1
        go_wp2_with fail
        go_ret
        exact ⟨rfl, hb⟩
end Go.Proofs.Ytakknofacikiaaa

namespace Go.Proofs.Ytakknofacikiaaa.lawNumRow
open Go.RowKit Go.ChangeShapes Go.WideShapes Go.ChangeAt
open Go.ChangeMaps (open_string shut_string)
theorem walk (w : World) (A : Option Addr) (n c : Nat) (xs : List Int) (hx : Ints w A n xs) (hc0 : A = none → c = 0) (hn : n ≤ 9223372036854775807) (A2 : Option Addr) (n2 c2 : Nat) (ys : List Int) (hy : Ints w A2 n2 ys) (hc2 : A2 = none → c2 = 0) (hn2 : n2 ≤ 9223372036854775807) :
    Calls Try.prog 8 #[.slice A n c, .slice A2 n2 c2] w fun e w' => e = .returned (.bool true) ∧ Below w.heap.size w w' := by
  by_cases h : 300 < n
  · exact numRow_great1 A n c A2 n2 c2 w h hn
  · by_cases h2 : 300 < n2
    · exact numRow_great2 A n c A2 n2 c2 w (by omega) h2 hn2
    · exact numRow_go A n c xs A2 n2 c2 ys w hx hc0 (by omega) hy hc2 (by omega)
set_option maxRecDepth 100000 in
theorem lifted (os : Os) (started : os.Started) (H : Type) (enc : TypeId × Value → H) :
    ReturnsInHanded {} Try.checked os 8 .any (Rows.numRowSpec.pre6 enc Try.prog Try.f8 Rows.numRowRow.domain false) (Rows.numRowSpec.post enc Try.prog Try.f8 false true false false) := by
  refine returnsInHanded_of_change (C := Try.checked) own_none started (by kernel_rfl) Try.func8
    (ChangeSpec.witness6 (enc := enc) (C := Try.checked) false ⟨#[], #[.slice none 0 0, .slice none 0 0], []⟩ 8 (by kernel_rfl) (by kernel_rfl) (by kernel_rfl) (by kernel_rfl)) ?_
  intro W base args ds gs before hval0 hW hcnd _
  have hval : ∀ (j : Nat) t v, Try.f8.params[j]? = some t → args[j]? = some v → Value.okWide Try.prog W .any base t v := hval0
  have hWk := hW
  obtain ⟨p, q, hA0, hV, hbef, _, _⟩ := hWk
  have hA : DataW.TrodAll enc Try.prog W 0 (fun _ => true) true Try.f8.params.toList args.toList ds p := hA0
  obtain ⟨rfl, rfl⟩ := trodVars_none hV
  rw [Try.params8] at hA hval
  obtain ⟨v0, vs0, d0, ds0, p0, q0, hargs, rfl, hp0, h0, r0⟩ := trodAll_cons hA
  obtain ⟨v1, vs1, d1, ds1, p1, q1, rfl, rfl, hp1, h1, r1⟩ := trodAll_cons r0
  obtain ⟨rfl, rfl, hpn⟩ := trodAll_nil r1
  obtain rfl : args = #[v0, v1] := by cases args; simp_all
  obtain ⟨A0, n0, c0, xs0, rfl, hi0⟩ := open_Ints Try.underlying38 Try.underlying3 cells_int (hval 0 38 v0 rfl rfl) h0
  obtain ⟨A1, n1, c1, xs1, rfl, hi1⟩ := open_Ints Try.underlying38 Try.underlying3 cells_int (hval 1 38 v1 rfl rfl) h1
  refine (walk W A0 n0 c0 xs0 hi0.1 hi0.2.1 (by have := hi0.2.2; unfold maxLen at this; omega) A1 n1 c1 xs1 hi1.1 hi1.2.1 (by have := hi1.2.2; unfold maxLen at this; omega)).mono fun e W' ⟨he, hg⟩ => ?_
  subst he
  exact ⟨_, rfl, law_post laid_out (by kernel_rfl) rfl (by kernel_rfl) Try.underlying4 hW rfl hg⟩

theorem over : Rows.numRowRow.holds Try.pinned (OpenSpec.ofChange Rows.numRowSpec) :=
  OpenClaim.holds_of_wide 8 Try.f8 rfl rfl rfl rfl rfl rfl rfl ⟨rfl, rfl, rfl, rfl, rfl⟩ rfl rfl rfl rfl rfl (by kernel_rfl) Try.func8 (by kernel_rfl)
    (of_decide_eq_true (by kernel_rfl)) (by unfold Func.isWrapper; first | (rw [if_pos (by decide +kernel)]; kernel_rfl) | (rw [if_neg (by decide +kernel)]; exact ⟨rfl, rfl⟩))
    (fun os started H enc _ => lifted os started H enc)

/-- THE STATEMENT. -/
theorem proved : Rows.NumRowSaid :=
  over
end Go.Proofs.Ytakknofacikiaaa.lawNumRow
