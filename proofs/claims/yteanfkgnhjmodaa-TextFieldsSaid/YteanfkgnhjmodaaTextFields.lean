/-
  TextFields.
-/
import Derived.Test.YteanfkgnhjmodaaTextLaw
set_option linter.unusedSimpArgs false
set_option linter.unusedVariables false
namespace Go.Proofs.Yteanfkgnhjmodaa
open Go.RowKit

theorem textFields_many (A : Option Addr) (n c : Nat) (l : List UInt8) (w : World) (h : 20 < n) (hn : n ≤ 9223372036854775807) :
    Calls Try.prog 5 #[.slice A n c, .string ⟨l.toArray⟩] w fun e w' => e = .returned (.bool true) ∧ Below w.heap.size w w' := by
  have hb : Below w.heap.size w w := Below.refl _ _
  have hd : decide ((20 : Int) < (n : Int)) = true := by simp; omega
  go_enter Try.func5, Try.ntmps5
  go_wp2_with fail
  refine (tawake_any _).mono ?_
  rintro e w1 ⟨rfl, hb1⟩
  replace hb := below_more hb hb1
  clear hb1
  go_wp2_with fail
  go_ret
  exact ⟨rfl, hb⟩
theorem textFields_great (A : Option Addr) (n c : Nat) (l : List UInt8) (w : World) (h : n ≤ 20) (hl : 3000 < l.length) :
    Calls Try.prog 5 #[.slice A n c, .string ⟨l.toArray⟩] w fun e w' => e = .returned (.bool true) ∧ Below w.heap.size w w' := by
  have hb : Below w.heap.size w w := Below.refl _ _
  have hd : decide ((20 : Int) < (n : Int)) = false := by simp; omega
  go_enter Try.func5, Try.ntmps5
  go_wp2_with fail
  refine (tgreat_yes l _ hl).mono ?_
  rintro e w1 ⟨rfl, rfl⟩
  go_wp2_with fail
  refine (tawake_any _).mono ?_
  rintro e w1 ⟨rfl, hb1⟩
  replace hb := below_more hb hb1
  clear hb1
  go_wp2_with fail
  go_ret
  exact ⟨rfl, hb⟩
theorem small_snoc (xs : List (List UInt8)) (k : Nat) (x : List UInt8) (hx : xs[k]? = some x) (h : x.length ≤ 3000) (hk : ∀ y ∈ xs.take k, y.length ≤ 3000) : ∀ y ∈ xs.take (k + 1), y.length ≤ 3000 := by
  intro y hy
  rw [List.take_add_one, hx, List.mem_append] at hy
  rcases hy with hy | hy
  · exact hk y hy
  · simp at hy; subst hy; exact h
set_option maxHeartbeats 1000000 in
theorem textFields_go (A : Option Addr) (n c : Nat) (xs : List (List UInt8)) (l : List UInt8) (w : World) (hx : Strs w A n xs) (hm : Hid (∀ x ∈ xs, x.length ≤ 9223372036854775807)) (hn : n ≤ 20) (hl : l.length ≤ 3000) :
    Calls Try.prog 5 #[.slice A n c, .string ⟨l.toArray⟩] w fun e w' => e = .returned (.bool true) ∧ Below w.heap.size w w' := by
  have hb : Below w.heap.size w w := Below.refl _ _
  have hd : decide ((20 : Int) < (n : Int)) = false := by simp; omega
  go_enter Try.func5, Try.ntmps5
  go_wp2_with fail
  refine (tgreat_no l _ hl).mono ?_
  rintro e w1 ⟨rfl, rfl⟩
  go_wp2_with fail
  go_loop [5] (fun i => ∃ k : Nat, k ≤ n ∧ i = .int .i64 k ∧ Hid (∀ y ∈ xs.take k, y.length ≤ 3000)) (fun i => n - (intOf i).toNat)
  case atStart => exact ⟨0, by omega, rfl, Lib.hid (by simp)⟩
  case round =>
    obtain ⟨k, hk, rfl, hs⟩ := hrel
    by_cases hlt : k < n
    · obtain ⟨b, off, x, rfl, hxk, hcell⟩ := hx.at_ hlt
      have HX := Lib.hid hxk
      clear hxk
      by_cases hg : 3000 < x.length
      · skip
        go_wp2_with fail
        refine (tgreat_yes x _ hg).mono ?_
        rintro e w1 ⟨rfl, rfl⟩
        go_wp2_with fail
        refine (tawake_any _).mono ?_
        rintro e w1 ⟨rfl, hb1⟩
        replace hb := below_more hb hb1
        clear hb1
        go_wp2_with fail
        go_ret
        exact ⟨rfl, hb⟩
      · have hsn := Lib.hid (small_snoc xs k x HX.out (by omega) hs.out)
        go_wp2_with fail
        refine (tgreat_no x _ (by omega)).mono ?_
        rintro e w1 ⟨rfl, rfl⟩
        go_wp2
        go_round
        case rel => exact ⟨k + 1, by omega, by go_num, hsn⟩
        case measure => simp [intOf]; omega
    · have hxl := Lib.hid hx.len
      go_wp2_with fail
      refine (textPut_any A n c xs _ hx (by omega) hm).mono ?_
      rintro e w1 ⟨rfl, hb1⟩
      replace hb := below_more hb hb1
      clear hb1
      go_wp2_with fail
      refine (refPut_any A n c xs _ (hx.below hb) (by omega) hm).mono ?_
      rintro e w1 ⟨rfl, hb1⟩
      replace hb := below_more hb hb1
      clear hb1
      go_wp2_with fail
      refine (putData_yes l _ (by omega)).mono ?_
      rintro e w1 ⟨rfl, hb1⟩
      replace hb := below_more hb hb1
      clear hb1
      go_wp2_with fail
      refine (refPutData_yes l _ (by omega)).mono ?_
      rintro e w1 ⟨rfl, hb1⟩
      replace hb := below_more hb hb1
      clear hb1
      go_wp2_with fail
      refine (get_any l _ (by omega)).mono ?_
      rintro e w1 ⟨rfl, hb1⟩
      replace hb := below_more hb hb1
      clear hb1
      go_wp2_with fail
      refine (refGet_any l _ (by omega)).mono ?_
      rintro e w1 ⟨rfl, hb1⟩
      replace hb := below_more hb hb1
      clear hb1
      go_wp2_with fail
      refine (getData_any l _ (by omega)).mono ?_
      rintro e w1 ⟨rfl, hb1⟩
      replace hb := below_more hb hb1
      clear hb1
      go_wp2_with fail
      refine (refGetData_any l _ (by omega)).mono ?_
      rintro e w1 ⟨rfl, hb1⟩
      replace hb := below_more hb hb1
      clear hb1
      go_wp2_with fail
      refine (tawake_any _).mono ?_
      rintro e w1 ⟨rfl, hb1⟩
      replace hb := below_more hb hb1
      clear hb1
      go_wp2_with fail
      go_ret
      exact ⟨rfl, hb⟩
end Go.Proofs.Yteanfkgnhjmodaa

namespace Go.Proofs.Yteanfkgnhjmodaa.lawTextFields
open Go.RowKit Go.ChangeShapes Go.WideShapes Go.ChangeAt
open Go.ChangeMaps (open_string shut_string)
theorem walk (w : World) (A : Option Addr) (n c : Nat) (xs : List (List UInt8)) (hx : Strs w A n xs) (_hc0 : A = none → c = 0) (hn : n ≤ 9223372036854775807) (hm : Hid (∀ x ∈ xs, x.length ≤ 9223372036854775807)) (l : List UInt8) (_hl : l.length ≤ 9223372036854775807) :
    Calls Try.prog 5 #[.slice A n c, .string ⟨l.toArray⟩] w fun e w' => e = .returned (.bool true) ∧ Below w.heap.size w w' := by
  by_cases h : 20 < n
  · exact textFields_many A n c l w h hn
  · by_cases h2 : 3000 < l.length
    · exact textFields_great A n c l w (by omega) h2
    · exact textFields_go A n c xs l w hx hm (by omega) (by omega)
set_option maxRecDepth 100000 in
theorem lifted (os : Os) (started : os.Started) (H : Type) (enc : TypeId × Value → H) :
    ReturnsInHanded {} Try.checked os 5 .any (Rows.textFieldsSpec.pre6 enc Try.prog Try.f5 Rows.textFieldsRow.domain false) (Rows.textFieldsSpec.post enc Try.prog Try.f5 false true false false) := by
  refine returnsInHanded_of_change (C := Try.checked) own_none started (by kernel_rfl) Try.func5
    (ChangeSpec.witness6 (enc := enc) (C := Try.checked) false ⟨#[], #[.slice none 0 0, .string ByteArray.empty], []⟩ 8 (by kernel_rfl) (by kernel_rfl) (by kernel_rfl) (by kernel_rfl)) ?_
  intro W base args ds gs before hval0 hW hcnd _
  have hval : ∀ (j : Nat) t v, Try.f5.params[j]? = some t → args[j]? = some v → Value.okWide Try.prog W .any base t v := hval0
  have hWk := hW
  obtain ⟨p, q, hA0, hV, hbef, _, _⟩ := hWk
  have hA : DataW.TrodAll enc Try.prog W 0 (fun _ => true) true Try.f5.params.toList args.toList ds p := hA0
  obtain ⟨rfl, rfl⟩ := trodVars_none hV
  rw [Try.params5] at hA hval
  obtain ⟨v0, vs0, d0, ds0, p0, q0, hargs, rfl, hp0, h0, r0⟩ := trodAll_cons hA
  obtain ⟨v1, vs1, d1, ds1, p1, q1, rfl, rfl, hp1, h1, r1⟩ := trodAll_cons r0
  obtain ⟨rfl, rfl, hpn⟩ := trodAll_nil r1
  obtain rfl : args = #[v0, v1] := by cases args; simp_all
  obtain ⟨A0, n0, c0, xs0, rfl, hi0⟩ := open_Strs Try.underlying22 Try.underlying9 cells_str (hval 0 22 v0 rfl rfl) h0
  obtain ⟨s1, rfl, rfl, hx1, w1⟩ := open_string Try.underlying9 (hval 1 9 v1 rfl rfl) h1
  obtain ⟨a1, rfl, hl1⟩ := str_of s1
  refine (walk W A0 n0 c0 xs0 hi0.1 hi0.2.1 (by have := hi0.2.2.1; unfold maxLen at this; omega) hi0.2.2.2 a1 (by unfold maxLen at w1; omega)).mono fun e W' ⟨he, hg⟩ => ?_
  subst he
  exact ⟨_, rfl, law_post laid_out (by kernel_rfl) rfl (by kernel_rfl) Try.underlying4 hW rfl hg⟩

theorem over : Rows.textFieldsRow.holds Try.pinned (OpenSpec.ofChange Rows.textFieldsSpec) :=
  OpenClaim.holds_of_wide 5 Try.f5 rfl rfl rfl rfl rfl rfl rfl ⟨rfl, rfl, rfl, rfl, rfl⟩ rfl rfl rfl rfl rfl (by kernel_rfl) Try.func5 (by kernel_rfl)
    (of_decide_eq_true (by kernel_rfl)) (by unfold Func.isWrapper; first | (rw [if_pos (by decide +kernel)]; kernel_rfl) | (rw [if_neg (by decide +kernel)]; exact ⟨rfl, rfl⟩))
    (fun os started H enc _ => lifted os started H enc)

/-- THE STATEMENT. -/
theorem proved : Rows.TextFieldsSaid :=
  over
end Go.Proofs.Yteanfkgnhjmodaa.lawTextFields
