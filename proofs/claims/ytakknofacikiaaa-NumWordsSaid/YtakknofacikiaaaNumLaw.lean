/-
  The laws of layer 1: their helpers, and each law's walk.
-/
import Derived.Test.YtakknofacikiaaaNumRef
namespace Go.Proofs.Ytakknofacikiaaa
open Go.RowKit

theorem great_no (l : List UInt8) (w : World) (h : l.length ≤ 2000) :
    Calls Try.prog 14 #[.string ⟨l.toArray⟩] w fun e w' => e = .returned (.bool false) ∧ w = w' := by
  have hd : decide ((2000 : Int) < (l.length : Int)) = false := by simp; omega
  go_enter Try.func14, Try.ntmps14
  go_wp2
  go_ret
  exact ⟨rfl, rfl⟩
theorem great_yes (l : List UInt8) (w : World) (h : 2000 < l.length) :
    Calls Try.prog 14 #[.string ⟨l.toArray⟩] w fun e w' => e = .returned (.bool true) ∧ w = w' := by
  have hd : decide ((2000 : Int) < (l.length : Int)) = true := by simp; omega
  go_enter Try.func14, Try.ntmps14
  go_wp2
  go_ret
  exact ⟨rfl, rfl⟩

theorem writes_yes (n : Int) (l : Array UInt8) (w : World) (h0 : 0 ≤ n) (h1 : n ≤ 268435455) (hl : (lenL 3 n).toArray = l) :
    Calls Try.prog 9 #[.int .i64 n, .string ⟨l⟩, .int .i64 0] w fun e w' => e = .returned (.bool true) ∧ Below w.heap.size w w' := by
  subst hl
  have hz := lenL_size n h0 h1
  have hz' : (sizeF n == ((lenL 3 n).length : Int)) = true := by simp [hz]
  clear hz
  go_enter Try.func9, Try.ntmps9
  go_wp2_with (go_at_call 15; refine (numLen_yes n _ h0 h1).mono ?_; rintro e w1 ⟨rfl, hb1⟩)
  go_wp2_with (go_at_call 19; refine (numSize_yes n _ h0 h1).mono ?_; rintro e w2 ⟨rfl, rfl⟩)
  go_ret
  exact ⟨rfl, hb1⟩
theorem writes_no (n : Int) (w : World) (h : n < 0 ∨ 268435455 < n) :
    Calls Try.prog 9 #[.int .i64 n, .string ⟨#[]⟩, .int .i64 1] w fun e w' => e = .returned (.bool true) ∧ Below w.heap.size w w' := by
  go_enter Try.func9, Try.ntmps9
  go_wp2_with (go_at_call 15; refine (numLen_no n _ h).mono ?_; rintro e w1 ⟨rfl, rfl⟩)
  go_wp2_with (go_at_call 19; refine (numSize_no n _ h).mono ?_; rintro e w2 ⟨rfl, rfl⟩)
  go_ret
  exact ⟨rfl, Below.refl _ _⟩
theorem reads_yes (l : Array UInt8) (a b c : Int) (w : World) (hl : l.toList.length ≤ 2000) (h : rdR l.toList = (a, b, c)) :
    Calls Try.prog 10 #[.string ⟨l⟩, .int .i64 a, .int .i64 b, .int .i64 c] w fun e w' => e = .returned (.bool true) ∧ Below w.heap.size w w' := by
  have ha : a = (rdR l.toList).1 := by rw [h]
  have hb : b = (rdR l.toList).2.1 := by rw [h]
  have hc : c = (rdR l.toList).2.2 := by rw [h]
  subst ha hb hc
  clear h
  obtain ⟨L, rfl⟩ : ∃ L : List UInt8, l = L.toArray := ⟨l.toList, by simp⟩
  simp only [List.toList_toArray] at *
  go_enter Try.func10, Try.ntmps10
  go_wp2_with (go_at_call 17; refine (numReadLen_any L _ (by omega)).mono ?_; rintro e w1 ⟨rfl, rfl⟩)
  go_ret
  exact ⟨rfl, Below.refl _ _⟩

theorem numWords_eq (A : Option Addr) (n c : Nat) (xs : List Int) (bs : List UInt8) (er : Int) (w : World) (hx : Ints w A n xs) (hn : n ≤ 1000000) (h : wordsR xs = (bs, er)) :
    Calls Try.prog 11 #[.slice A n c] w fun e w' => e = .returned (.tuple #[.string ⟨bs.toArray⟩, .int .i64 er]) ∧ Below w.heap.size w w' := by
  have := numWords_any A n c xs w hx hn
  rw [h] at this
  exact this

set_option maxHeartbeats 800000 in
theorem awake_any (w : World) :
    Calls Try.prog 13 #[] w fun e w' => e = .returned (.bool true) ∧ Below w.heap.size w w' := by
  have hb : Below w.heap.size w w := Below.refl _ _
  go_enter Try.func13, Try.ntmps13
  go_wp2_with fail
  refine (numWords_eq _ _ _ [1, 65535] [0, 1, 255, 255] 0 _ (ints_new2 _ _ _ _) (by omega) (by decide)).mono ?_
  rintro e w1 ⟨rfl, hb1⟩
  replace hb := below_more (below_alloc hb _) hb1
  clear hb1
  go_wp2_with fail
  refine (numReadWord_yes [1, 2, 3] 1 2 [3] _ rfl (by decide)).mono ?_
  rintro e w1 ⟨rfl, hb1⟩
  replace hb := below_more hb hb1
  clear hb1
  go_wp2_with fail
  refine (writes_yes 128 #[128, 1] _ (by omega) (by omega) (by decide)).mono ?_
  rintro e w1 ⟨rfl, hb1⟩
  replace hb := below_more hb hb1
  clear hb1
  go_wp2_with fail
  refine (writes_no (-1) _ (by omega)).mono ?_
  rintro e w1 ⟨rfl, hb1⟩
  replace hb := below_more hb hb1
  clear hb1
  go_wp2_with fail
  refine (reads_yes #[128, 1, 153] 128 2 0 _ (by decide) (by decide)).mono ?_
  rintro e w1 ⟨rfl, hb1⟩
  replace hb := below_more hb hb1
  clear hb1
  go_wp2_with fail
  refine (reads_yes #[128, 128] 0 0 2 _ (by decide) (by decide)).mono ?_
  rintro e w1 ⟨rfl, hb1⟩
  replace hb := below_more hb hb1
  clear hb1
  go_wp2_with fail
  go_ret
  exact ⟨rfl, hb⟩
end Go.Proofs.Ytakknofacikiaaa
