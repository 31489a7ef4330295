/-
  text's statements: what their helpers answer; TextTells.
-/
import Derived.Test.YteanfkgnhjmodaaTextRefs
set_option linter.unusedSimpArgs false
set_option linter.unusedVariables false
namespace Go.Proofs.Yteanfkgnhjmodaa
open Go.RowKit

theorem field_back (a r : List UInt8) (h : a.length ≤ 65535) : getD (fieldL a ++ r) = (a, (a.length : Int) + 2, 0) := by
  have h1 := toB_toNat ((a.length : Int) / 256) (by omega) (by omega)
  have h2 := toB_toNat ((a.length : Int) % 256) (by omega) (by omega)
  have h3 : (toB ((a.length : Int) / 256)).toNat * 256 + (toB ((a.length : Int) % 256)).toNat = a.length := by omega
  show getD (toB _ :: toB _ :: (a ++ r)) = _
  rw [getD, if_neg (by rw [h1, h2, List.length_append]; omega), h3, h1, h2, List.take_left]
  congr 2
  omega
theorem field_cut (a : List UInt8) (k : Nat) (h : a.length ≤ 65535) (hk : k < a.length + 2) : getD ((fieldL a).take k) = ([], 0, 2) := by
  have h1 := toB_toNat ((a.length : Int) / 256) (by omega) (by omega)
  have h2 := toB_toNat ((a.length : Int) % 256) (by omega) (by omega)
  match k, hk with
  | 0, _ => rfl
  | 1, _ => rfl
  | k + 2, hk =>
    show getD (toB _ :: toB _ :: a.take k) = _
    rw [getD, if_pos (by rw [h1, h2, List.length_take]; omega)]
theorem get_back (a r : List UInt8) (hv : valB a = true) : getR (fieldL a ++ r) = (a, (a.length : Int) + 2, 0) := by
  obtain ⟨_, _, _, hl⟩ := valB_some a hv
  rw [getR, field_back a r hl]
  simp [hv]
theorem tgreat_no (l : List UInt8) (w : World) (h : l.length ≤ 3000) :
    Calls Try.prog 15 #[.string ⟨l.toArray⟩] w fun e w' => e = .returned (.bool false) ∧ w = w' := by
  have hd : decide ((3000 : Int) < (l.length : Int)) = false := by simp; omega
  go_enter Try.func15, Try.ntmps15
  go_wp2
  go_ret
  exact ⟨rfl, rfl⟩
theorem tgreat_yes (l : List UInt8) (w : World) (h : 3000 < l.length) :
    Calls Try.prog 15 #[.string ⟨l.toArray⟩] w fun e w' => e = .returned (.bool true) ∧ w = w' := by
  have hd : decide ((3000 : Int) < (l.length : Int)) = true := by simp; omega
  go_enter Try.func15, Try.ntmps15
  go_wp2
  go_ret
  exact ⟨rfl, rfl⟩
theorem textPut_eq (A : Option Addr) (n c : Nat) (xs : List (List UInt8)) (bs : List UInt8) (er : Int) (w : World) (hx : Strs w A n xs) (hn : n ≤ 1000000) (hm : Hid (∀ x ∈ xs, x.length ≤ 9223372036854775807)) (h : putR xs = (bs, er)) :
    Calls Try.prog 12 #[.slice A n c] w fun e w' => e = .returned (.tuple #[.string ⟨bs.toArray⟩, .int .i64 er]) ∧ Below w.heap.size w w' := by
  have := textPut_any A n c xs w hx hn hm
  rw [h] at this
  exact this
theorem get_eq (l x : List UInt8) (n e : Int) (w : World) (hl : l.length ≤ 1000000000) (h : getR l = (x, n, e)) :
    Calls Try.prog 20 #[.string ⟨l.toArray⟩] w fun r w' => r = .returned (.tuple #[.string ⟨x.toArray⟩, .int .i64 n, .int .i64 e]) ∧ Below w.heap.size w w' := by
  have := get_any l w hl
  rw [h] at this
  exact this
theorem textCount_eq (l : List UInt8) (n : Int) (w : World) (hl : l.length ≤ 9223372036854775807) (h : cntR l = n) :
    Calls Try.prog 10 #[.string ⟨l.toArray⟩] w fun e w' => e = .returned (.int .i64 n) ∧ Below w.heap.size w w' := h ▸ textCount_any l w hl
theorem gets_yes (l t : List UInt8) (n e : Int) (w : World) (hl : l.length ≤ 1000000000) (h : getR l = (t, n, e)) :
    Calls Try.prog 11 #[.string ⟨l.toArray⟩, .string ⟨t.toArray⟩, .int .i64 n, .int .i64 e] w fun r w' => r = .returned (.bool true) ∧ Below w.heap.size w w' := by
  have hb : Below w.heap.size w w := Below.refl _ _
  have H := Lib.hid h
  clear h
  go_enter Try.func11, Try.ntmps11
  go_wp2_with fail
  refine (get_eq l t n e _ hl H.out).mono ?_
  rintro e w1 ⟨rfl, hb1⟩
  replace hb := below_more hb hb1
  clear hb1
  go_wp2_with fail
  go_ret
  exact ⟨rfl, hb⟩

set_option maxHeartbeats 1000000 in
theorem tawake_any (w : World) :
    Calls Try.prog 14 #[] w fun e w' => e = .returned (.bool true) ∧ Below w.heap.size w w' := by
  have hb : Below w.heap.size w w := Below.refl _ _
  go_enter Try.func14, Try.ntmps14
  go_wp2_with fail
  refine (textPut_eq _ _ _ [[77, 81, 84, 84]] [0, 4, 77, 81, 84, 84] 0 _ (strs_new1 _ _ _) (by omega) (Lib.hid (by decide)) (by decide)).mono ?_
  rintro e w1 ⟨rfl, hb1⟩
  replace hb := below_more (below_alloc hb _) hb1
  clear hb1
  go_wp2_with fail
  refine (textPut_eq _ _ _ [[0]] [] 5 _ (strs_new1 _ _ _) (by omega) (Lib.hid (by decide)) (by decide)).mono ?_
  rintro e w1 ⟨rfl, hb1⟩
  replace hb := below_more (below_alloc hb _) hb1
  clear hb1
  go_wp2_with fail
  refine (getData_eq [0, 1, 255, 7] [255] 3 0 _ (by decide) (by decide)).mono ?_
  rintro e w1 ⟨rfl, hb1⟩
  replace hb := below_more hb hb1
  clear hb1
  go_wp2_with fail
  refine (textValid_eq [195, 169] true _ (by decide) (by decide)).mono ?_
  rintro e w1 ⟨rfl, hb1⟩
  replace hb := below_more hb hb1
  clear hb1
  go_wp2_with fail
  refine (textValid_eq [195] false _ (by decide) (by decide)).mono ?_
  rintro e w1 ⟨rfl, hb1⟩
  replace hb := below_more hb hb1
  clear hb1
  go_wp2_with fail
  refine (textCount_eq [97, 195, 169, 226, 130, 172] 3 _ (by decide) (by decide)).mono ?_
  rintro e w1 ⟨rfl, hb1⟩
  replace hb := below_more hb hb1
  clear hb1
  go_wp2_with fail
  refine (textCount_eq [128] (-1) _ (by decide) (by decide)).mono ?_
  rintro e w1 ⟨rfl, hb1⟩
  replace hb := below_more hb hb1
  clear hb1
  go_wp2_with fail
  refine (gets_yes [0, 1, 97, 98] [97] 3 0 _ (by decide) (by decide)).mono ?_
  rintro e w1 ⟨rfl, hb1⟩
  replace hb := below_more hb hb1
  clear hb1
  go_wp2_with fail
  refine (gets_yes [0, 2, 97] [] 0 2 _ (by decide) (by decide)).mono ?_
  rintro e w1 ⟨rfl, hb1⟩
  replace hb := below_more hb hb1
  clear hb1
  go_wp2_with fail
  go_ret
  exact ⟨rfl, hb⟩

theorem textTells_great (l : List UInt8) (w : World) (hl : 3000 < l.length) :
    Calls Try.prog 4 #[.string ⟨l.toArray⟩] w fun e w' => e = .returned (.bool true) ∧ Below w.heap.size w w' := by
  have hb : Below w.heap.size w w := Below.refl _ _
  go_enter Try.func4, Try.ntmps4
  go_wp2_with fail
  refine (tgreat_yes l _ hl).mono ?_
  rintro e w1 ⟨rfl, rfl⟩
  go_wp2_with fail
  refine (tawake_any _).mono ?_
  rintro e w1 ⟨rfl, hb1⟩
  replace hb := below_more hb hb1
  clear hb1
  go_wp2_with fail
  go_ret
  exact ⟨rfl, hb⟩
theorem textTells_go (l : List UInt8) (w : World) (hl : l.length ≤ 3000) :
    Calls Try.prog 4 #[.string ⟨l.toArray⟩] w fun e w' => e = .returned (.bool true) ∧ Below w.heap.size w w' := by
  have hb : Below w.heap.size w w := Below.refl _ _
  go_enter Try.func4, Try.ntmps4
  go_wp2_with fail
  refine (tgreat_no l _ hl).mono ?_
  rintro e w1 ⟨rfl, rfl⟩
  go_wp2_with fail
  refine (textValid_eq l _ _ (by omega) rfl).mono ?_
  rintro e w1 ⟨rfl, hb1⟩
  replace hb := below_more hb hb1
  clear hb1
  go_wp2_with fail
  refine (refValid_eq l _ _ (by omega) rfl).mono ?_
  rintro e w1 ⟨rfl, hb1⟩
  replace hb := below_more hb hb1
  clear hb1
  go_wp2_with fail
  refine (textCount_any l _ (by omega)).mono ?_
  rintro e w1 ⟨rfl, hb1⟩
  replace hb := below_more hb hb1
  clear hb1
  go_wp2_with fail
  refine (refCount_any l _ (by omega)).mono ?_
  rintro e w1 ⟨rfl, hb1⟩
  replace hb := below_more hb hb1
  clear hb1
  go_wp2_with fail
  refine (tawake_any _).mono ?_
  rintro e w1 ⟨rfl, hb1⟩
  replace hb := below_more hb hb1
  clear hb1
  go_wp2_with fail
  go_ret
  exact ⟨rfl, hb⟩
end Go.Proofs.Yteanfkgnhjmodaa

namespace Go.Proofs.Yteanfkgnhjmodaa.lawTextTells
open Go.RowKit Go.ChangeShapes Go.WideShapes Go.ChangeAt
open Go.ChangeMaps (open_string shut_string)
theorem walk (w : World) (l : List UInt8) (_hl : l.length ≤ 9223372036854775807) :
    Calls Try.prog 4 #[.string ⟨l.toArray⟩] w fun e w' => e = .returned (.bool true) ∧ Below w.heap.size w w' := by
  by_cases hg : 3000 < l.length
  · exact textTells_great l w hg
  · exact textTells_go l w (by omega)
set_option maxRecDepth 100000 in
theorem lifted (os : Os) (started : os.Started) (H : Type) (enc : TypeId × Value → H) :
    ReturnsInHanded {} Try.checked os 4 .any (Rows.textTellsSpec.pre6 enc Try.prog Try.f4 Rows.textTellsRow.domain false) (Rows.textTellsSpec.post enc Try.prog Try.f4 false true false false) := by
  refine returnsInHanded_of_change (C := Try.checked) own_none started (by kernel_rfl) Try.func4
    (ChangeSpec.witness6 (enc := enc) (C := Try.checked) false ⟨#[], #[.string ByteArray.empty], []⟩ 8 (by kernel_rfl) (by kernel_rfl) (by kernel_rfl) (by kernel_rfl)) ?_
  intro W base args ds gs before hval0 hW hcnd _
  have hval : ∀ (j : Nat) t v, Try.f4.params[j]? = some t → args[j]? = some v → Value.okWide Try.prog W .any base t v := hval0
  have hWk := hW
  obtain ⟨p, q, hA0, hV, hbef, _, _⟩ := hWk
  have hA : DataW.TrodAll enc Try.prog W 0 (fun _ => true) true Try.f4.params.toList args.toList ds p := hA0
  obtain ⟨rfl, rfl⟩ := trodVars_none hV
  rw [Try.params4] at hA hval
  obtain ⟨v0, vs0, d0, ds0, p0, q0, hargs, rfl, hp0, h0, r0⟩ := trodAll_cons hA
  obtain ⟨rfl, rfl, hpn⟩ := trodAll_nil r0
  obtain rfl : args = #[v0] := by cases args; simp_all
  obtain ⟨s0, rfl, rfl, hx0, w0⟩ := open_string Try.underlying9 (hval 0 9 v0 rfl rfl) h0
  obtain ⟨a0, rfl, hl0⟩ := str_of s0
  refine (walk W a0 (by unfold maxLen at w0; omega)).mono fun e W' ⟨he, hg⟩ => ?_
  subst he
  exact ⟨_, rfl, law_post laid_out (by kernel_rfl) rfl (by kernel_rfl) Try.underlying4 hW rfl hg⟩

theorem over : Rows.textTellsRow.holds Try.pinned (OpenSpec.ofChange Rows.textTellsSpec) :=
  OpenClaim.holds_of_wide 4 Try.f4 rfl rfl rfl rfl rfl rfl rfl ⟨rfl, rfl, rfl, rfl, rfl⟩ rfl rfl rfl rfl rfl (by kernel_rfl) Try.func4 (by kernel_rfl)
    (of_decide_eq_true (by kernel_rfl)) (by unfold Func.isWrapper; first | (rw [if_pos (by decide +kernel)]; kernel_rfl) | (rw [if_neg (by decide +kernel)]; exact ⟨rfl, rfl⟩))
    (fun os started H enc _ => lifted os started H enc)

/-- THE STATEMENT. -/
theorem proved : Rows.TextTellsSaid :=
  over
end Go.Proofs.Yteanfkgnhjmodaa.lawTextTells
