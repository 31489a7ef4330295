/-
  NumWords, NumRow: the laws' walks.
-/
import Derived.Test.YtakknofacikiaaaNumBack
namespace Go.Proofs.Ytakknofacikiaaa
open Go.RowKit

theorem info64 : (Try.prog.info? 3).map (fun i => (i.zero, i.size, i.bytes)) = some (some (.int .i64 0), 1, 8) := by kernel_rfl

theorem numWords_great1 (A : Option Addr) (n c : Nat) (l : List UInt8) (w : World) (hn : 300 < n) (hn2 : n ≤ 9223372036854775807) :
    Calls Try.prog 5 #[.slice A n c, .string ⟨l.toArray⟩] w fun e w' => e = .returned (.bool true) ∧ Below w.heap.size w w' := by
  have hb : Below w.heap.size w w := Below.refl _ _
  have hd : decide ((300 : Int) < (n : Int)) = true := by simp; omega
  go_enter Try.func5, Try.ntmps5
  go_wp2_with fail
  refine (awake_any _).mono ?_
  rintro e w1 ⟨rfl, hb1⟩
  replace hb := below_more hb hb1
  clear hb1
  go_wp2_with fail
  go_ret
  exact ⟨rfl, hb⟩
theorem numWords_great2 (A : Option Addr) (n c : Nat) (l : List UInt8) (w : World) (hn : n ≤ 300) (hl : 2000 < l.length) :
    Calls Try.prog 5 #[.slice A n c, .string ⟨l.toArray⟩] w fun e w' => e = .returned (.bool true) ∧ Below w.heap.size w w' := by
  have hb : Below w.heap.size w w := Below.refl _ _
  have hd : decide ((300 : Int) < (n : Int)) = false := by simp; omega
  go_enter Try.func5, Try.ntmps5
  go_wp2_with fail
  refine (great_yes l _ hl).mono ?_
  rintro e w1 ⟨rfl, rfl⟩
  go_wp2_with fail
  refine (awake_any _).mono ?_
  rintro e w1 ⟨rfl, hb1⟩
  replace hb := below_more hb hb1
  clear hb1
  go_wp2_with fail
  go_ret
  exact ⟨rfl, hb⟩
/-- What ReadWord answers. -/
def rwR : List UInt8 → Int × Int × Int
  | a :: b :: _ => (a.toNat * 256 + b.toNat, 2, 0)
  | _ => (0, 0, 2)
theorem numReadWord_any (l : List UInt8) (w : World) (hl : l.length ≤ 9223372036854775807) :
    Calls Try.prog 12 #[.string ⟨l.toArray⟩] w fun e w' => e = .returned (.tuple #[.int .i64 (rwR l).1, .int .i64 (rwR l).2.1, .int .i64 (rwR l).2.2]) ∧ Below w.heap.size w w' := by
  match l, hl with
  | [], _ => exact numReadWord_no [] w (by decide)
  | [a], _ => exact numReadWord_no [a] w (by simp)
  | a :: b :: l, hl => exact numReadWord_yes _ a b l w rfl hl
theorem refReadWord_any (l : List UInt8) (w : World) (hl : l.length ≤ 9223372036854775807) :
    Calls Try.prog 22 #[.string ⟨l.toArray⟩] w fun e w' => e = .returned (.tuple #[.int .i64 (rwR l).1, .int .i64 (rwR l).2.1, .int .i64 (rwR l).2.2]) ∧ Below w.heap.size w w' := by
  match l, hl with
  | [], _ => exact refReadWord_no [] w (by decide)
  | [a], _ => exact refReadWord_no [a] w (by simp)
  | a :: b :: l, hl => exact refReadWord_yes _ a b l w rfl hl

theorem below_to {w w1 w2 : World} (h : Below w.heap.size w w1) (k : Below w.heap.size w1 w2) : Below w.heap.size w w2 := h.trans k

set_option maxHeartbeats 400000 in
theorem numWords_go (A : Option Addr) (n c : Nat) (xs : List Int) (l : List UInt8) (w : World) (hx : Ints w A n xs) (hc0 : A = none → c = 0) (hn : n ≤ 300) (hl : l.length ≤ 2000) :
    Calls Try.prog 5 #[.slice A n c, .string ⟨l.toArray⟩] w fun e w' => e = .returned (.bool true) ∧ Below w.heap.size w w' := by
  have hb : Below w.heap.size w w := Below.refl _ _
  have hd : decide ((300 : Int) < (n : Int)) = false := by simp; omega
  go_enter Try.func5, Try.ntmps5
  go_wp2_with fail
  refine (great_no l _ hl).mono ?_
  rintro e w1 ⟨rfl, rfl⟩
  go_wp2_with (at_builtin; refine wpList_iapp (w0 := w) (B := w.heap.size) rfl _ _ 38 rfl Try.underlying38 info64 rfl (OwnI.nil (Below.refl _ _) (Nat.le_refl _)) A n c xs rfl hx hc0 (by simp; omega) ?_)
  intro v1 w1 ho
  obtain ⟨A1, n1, c1, rfl, hI1⟩ := ho.form
  have hn1 := Lib.hid hI1.len
  have hn1m : n1 ≤ 300 := by have := hI1.len; have := hx.len; omega
  replace hb := ho.below
  have hxl := Lib.hid hx.len
  have hxm : xs.length ≤ 300 := by have := hx.len; omega
  go_wp2_with fail
  refine (numWords_any A1 _ c1 xs _ hI1 (by omega)).mono ?_
  rintro e w2 ⟨rfl, hb2⟩
  have hI2 := hI1.below hb2
  replace hb := below_more hb hb2
  clear hb2
  have hx1 := hx.below hb
  go_wp2_with fail
  refine (refWords_any A n c xs _ hx1 (by omega)).mono ?_
  rintro e w3 ⟨rfl, hb3⟩
  have hI3 := hI2.below hb3
  replace hb := below_more hb hb3
  clear hb3
  have hx3 := hx.below hb
  clear hx1 hI1 hI2 ho
  go_wp2_with fail
  go_loopw [10] (fun i wr => ∃ k : Nat, k ≤ n ∧ i = .int .i64 k ∧ Ints wr A n xs ∧ Ints wr A1 n1 xs ∧ Below w.heap.size w wr) (fun i _ => n - (intOf i).toNat)
  case atStart => exact ⟨0, by omega, rfl, hx3, hI3, hb⟩
  case round =>
    clear hx3 hI3 hb
    obtain ⟨k, hk, rfl, hx4, hI4, hb⟩ := hrel
    by_cases hlt : k < n
    · obtain ⟨b, off, x, rfl, hxk, hcell⟩ := hx4.at_ hlt
      obtain ⟨b1, off1, x1, rfl, hxk1, hcell1⟩ := hI4.at_ (k := k) (by have := hxl.out; have := hn1.out; omega)
      have hxx : x1 = x := by rw [hxk] at hxk1; exact (Option.some.inj hxk1).symm
      subst hxx
      clear hxk hxk1
      have hkI : (k : Int) < (n : Int) := by omega
      have hkX : (k : Int) < (n1 : Int) := by have := hxl.out; have := hn1.out; omega
      have hk0 : (0 : Int) ≤ (k : Int) := by omega
      go_wp2_with fail
      go_quiet (fail)
      go_wp2_with fail
      go_roundw
      case rel => exact ⟨k + 1, by omega, by go_num, hx4, hI4, below_drewN hb _⟩
      case measure => simp [intOf]; omega
    · skip
      go_wp2_with fail
      refine (numReadWord_any l _ (by omega)).mono ?_
      rintro e w1 ⟨rfl, hb1⟩
      replace hb := below_more hb hb1
      clear hb1
      go_wp2_with fail
      refine (refReadWord_any l _ (by omega)).mono ?_
      rintro e w1 ⟨rfl, hb1⟩
      replace hb := below_more hb hb1
      clear hb1
      go_wp2_with fail
      refine (awake_any _).mono ?_
      rintro e w1 ⟨rfl, hb1⟩
      replace hb := below_more hb hb1
      clear hb1
      go_wp2_with fail
      go_ret
      exact ⟨rfl, hb⟩
end Go.Proofs.Ytakknofacikiaaa

namespace Go.Proofs.Ytakknofacikiaaa.lawNumWords
open Go.RowKit Go.ChangeShapes Go.WideShapes Go.ChangeAt
open Go.ChangeMaps (open_string shut_string)
theorem walk (w : World) (A : Option Addr) (n c : Nat) (xs : List Int) (hx : Ints w A n xs) (hc0 : A = none → c = 0) (hn : n ≤ 9223372036854775807) (l : List UInt8) (_hl : l.length ≤ 9223372036854775807) :
    Calls Try.prog 5 #[.slice A n c, .string ⟨l.toArray⟩] w fun e w' => e = .returned (.bool true) ∧ Below w.heap.size w w' := by
  by_cases h : 300 < n
  · exact numWords_great1 A n c l w h hn
  · by_cases h2 : 2000 < l.length
    · exact numWords_great2 A n c l w (by omega) h2
    · exact numWords_go A n c xs l w hx hc0 (by omega) (by omega)
set_option maxRecDepth 100000 in
theorem lifted (os : Os) (started : os.Started) (H : Type) (enc : TypeId × Value → H) :
    ReturnsInHanded {} Try.checked os 5 .any (Rows.numWordsSpec.pre6 enc Try.prog Try.f5 Rows.numWordsRow.domain false) (Rows.numWordsSpec.post enc Try.prog Try.f5 false true false false) := by
  refine returnsInHanded_of_change (C := Try.checked) own_none started (by kernel_rfl) Try.func5
    (ChangeSpec.witness6 (enc := enc) (C := Try.checked) false ⟨#[], #[.slice none 0 0, .string ByteArray.empty], []⟩ 8 (by kernel_rfl) (by kernel_rfl) (by kernel_rfl) (by kernel_rfl)) ?_
  intro W base args ds gs before hval0 hW hcnd _
  have hval : ∀ (j : Nat) t v, Try.f5.params[j]? = some t → args[j]? = some v → Value.okWide Try.prog W .any base t v := hval0
  have hWk := hW
  obtain ⟨p, q, hA0, hV, hbef, _, _⟩ := hWk
  have hA : DataW.TrodAll enc Try.prog W 0 (fun _ => true) true Try.f5.params.toList args.toList ds p := hA0
  obtain ⟨rfl, rfl⟩ := trodVars_none hV
  rw [Try.params5] at hA hval
  obtain ⟨v0, vs0, d0, ds0, p0, q0, hargs, rfl, hp0, h0, r0⟩ := trodAll_cons hA
  obtain ⟨v1, vs1, d1, ds1, p1, q1, rfl, rfl, hp1, h1, r1⟩ := trodAll_cons r0
  obtain ⟨rfl, rfl, hpn⟩ := trodAll_nil r1
  obtain rfl : args = #[v0, v1] := by cases args; simp_all
  obtain ⟨A0, n0, c0, xs0, rfl, hi0⟩ := open_Ints Try.underlying38 Try.underlying3 cells_int (hval 0 38 v0 rfl rfl) h0
  obtain ⟨s1, rfl, rfl, hx1, w1⟩ := open_string Try.underlying9 (hval 1 9 v1 rfl rfl) h1
  obtain ⟨a1, rfl, hl1⟩ := str_of s1
  refine (walk W A0 n0 c0 xs0 hi0.1 hi0.2.1 (by have := hi0.2.2; unfold maxLen at this; omega) a1 (by unfold maxLen at w1; omega)).mono fun e W' ⟨he, hg⟩ => ?_
  subst he
  exact ⟨_, rfl, law_post laid_out (by kernel_rfl) rfl (by kernel_rfl) Try.underlying4 hW rfl hg⟩

theorem over : Rows.numWordsRow.holds Try.pinned (OpenSpec.ofChange Rows.numWordsSpec) :=
  OpenClaim.holds_of_wide 5 Try.f5 rfl rfl rfl rfl rfl rfl rfl ⟨rfl, rfl, rfl, rfl, rfl⟩ rfl rfl rfl rfl rfl (by kernel_rfl) Try.func5 (by kernel_rfl)
    (of_decide_eq_true (by kernel_rfl)) (by unfold Func.isWrapper; first | (rw [if_pos (by decide +kernel)]; kernel_rfl) | (rw [if_neg (by decide +kernel)]; exact ⟨rfl, rfl⟩))
    (fun os started H enc _ => lifted os started H enc)

/-- THE STATEMENT. -/
theorem proved : Rows.NumWordsSaid :=
  over
end Go.Proofs.Ytakknofacikiaaa.lawNumWords
