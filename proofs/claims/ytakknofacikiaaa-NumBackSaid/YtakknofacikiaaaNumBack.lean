/-
  NumBack, NumLonger: the laws' walks.
-/
import Derived.Test.YtakknofacikiaaaNumLaw
import Derived.Test.YtakknofacikiaaaNumFacts
namespace Go.Proofs.Ytakknofacikiaaa
open Go.RowKit

theorem numReadLen_eq (l : List UInt8) (a b c : Int) (w : World) (hl : l.length ≤ 9223372036854775807) (h : rdR l = (a, b, c)) :
    Calls Try.prog 17 #[.string ⟨l.toArray⟩] w fun e w' => e = .returned (.tuple #[.int .i64 a, .int .i64 b, .int .i64 c]) ∧ w = w' := by
  have := numReadLen_any l w hl
  rw [h] at this
  exact this

theorem numBack_great (a b : Int) (l : List UInt8) (k : Int) (w : World) (hl : 2000 < l.length) :
    Calls Try.prog 6 #[.int .i64 a, .int .i64 b, .string ⟨l.toArray⟩, .int .u8 k] w fun e w' => e = .returned (.bool true) ∧ Below w.heap.size w w' := by
  have hb : Below w.heap.size w w := Below.refl _ _
  go_enter Try.func6, Try.ntmps6
  go_wp2_with fail
  refine (great_yes l _ hl).mono ?_
  rintro e w1 ⟨rfl, rfl⟩
  go_wp2_with fail
  refine (awake_any _).mono ?_
  rintro e w1 ⟨rfl, hb1⟩
  replace hb := below_more hb hb1
  clear hb1
  go_wp2_with fail
  go_ret
  exact ⟨rfl, hb⟩
/-- What Len answers. -/
def lenR (n : Int) : List UInt8 × Int := if 0 ≤ n ∧ n ≤ 268435455 then (lenL 3 n, 0) else ([], 1)
theorem numLen_all (n : Int) (w : World) :
    Calls Try.prog 15 #[.int .i64 n] w fun e w' => e = .returned (.tuple #[.string ⟨(lenR n).1.toArray⟩, .int .i64 (lenR n).2]) ∧ Below w.heap.size w w' := by
  unfold lenR
  by_cases h : 0 ≤ n ∧ n ≤ 268435455
  · rw [if_pos h]; exact numLen_yes n w h.1 h.2
  · rw [if_neg h]; exact (numLen_no n w (by omega)).mono fun e w' ⟨he, hw⟩ => ⟨he, hw ▸ Below.refl _ _⟩

theorem numLen_eq (n : Int) (L : List UInt8) (w : World) (h0 : 0 ≤ n) (h1 : n ≤ 268435455) (h : lenL 3 n = L) :
    Calls Try.prog 15 #[.int .i64 n] w fun e w' => e = .returned (.tuple #[.string ⟨L.toArray⟩, .int .i64 0]) ∧ Below w.heap.size w w' := by
  subst h; exact numLen_yes n w h0 h1

theorem numSize_eq (n z : Int) (w : World) (h0 : 0 ≤ n) (h1 : n ≤ 268435455) (h : sizeF n = z) :
    Calls Try.prog 19 #[.int .i64 n] w fun e w' => e = .returned (.int .i64 z) ∧ w = w' := by
  subst h; exact numSize_yes n w h0 h1

theorem numBack_lo (a b : Int) (l : List UInt8) (k : Int) (w : World) (hl : l.length ≤ 2000) (h : a < 0) :
    Calls Try.prog 6 #[.int .i64 a, .int .i64 b, .string ⟨l.toArray⟩, .int .u8 k] w fun e w' => e = .returned (.bool true) ∧ Below w.heap.size w w' := by
  have hb : Below w.heap.size w w := Below.refl _ _
  have hd : decide (a < 0) = true := by simp; omega
  go_enter Try.func6, Try.ntmps6
  go_wp2_with fail
  refine (great_no l _ hl).mono ?_
  rintro e w1 ⟨rfl, rfl⟩
  go_wp2_with fail
  refine (numLen_no a _ (Or.inl h)).mono ?_
  rintro e w1 ⟨rfl, rfl⟩
  go_wp2_with fail
  refine (numLen_all b _).mono ?_
  rintro e w1 ⟨rfl, hb1⟩
  replace hb := below_more hb hb1
  clear hb1
  go_wp2_with fail
  refine (numSize_no a _ (Or.inl h)).mono ?_
  rintro e w1 ⟨rfl, rfl⟩
  go_wp2_with fail
  refine (awake_any _).mono ?_
  rintro e w1 ⟨rfl, hb1⟩
  replace hb := below_more hb hb1
  clear hb1
  go_wp2_with fail
  go_ret
  exact ⟨rfl, hb⟩
theorem numBack_hi (a b : Int) (l : List UInt8) (k : Int) (w : World) (hl : l.length ≤ 2000) (h : 268435455 < a) :
    Calls Try.prog 6 #[.int .i64 a, .int .i64 b, .string ⟨l.toArray⟩, .int .u8 k] w fun e w' => e = .returned (.bool true) ∧ Below w.heap.size w w' := by
  have hb : Below w.heap.size w w := Below.refl _ _
  have hd : decide (a < 0) = false := by simp; omega
  have hd1 : decide (268435455 < a) = true := by simp; omega
  go_enter Try.func6, Try.ntmps6
  go_wp2_with fail
  refine (great_no l _ hl).mono ?_
  rintro e w1 ⟨rfl, rfl⟩
  go_wp2_with fail
  refine (numLen_no a _ (Or.inr h)).mono ?_
  rintro e w1 ⟨rfl, rfl⟩
  go_wp2_with fail
  refine (numLen_all b _).mono ?_
  rintro e w1 ⟨rfl, hb1⟩
  replace hb := below_more hb hb1
  clear hb1
  go_wp2_with fail
  refine (numSize_no a _ (Or.inr h)).mono ?_
  rintro e w1 ⟨rfl, rfl⟩
  go_wp2_with fail
  refine (awake_any _).mono ?_
  rintro e w1 ⟨rfl, hb1⟩
  replace hb := below_more hb hb1
  clear hb1
  go_wp2_with fail
  go_ret
  exact ⟨rfl, hb⟩
set_option maxRecDepth 100000 in
theorem numBack_in (a b : Int) (l : List UInt8) (k : Int) (w : World) (hl : l.length ≤ 2000) (k0 : 0 ≤ k) (k1 : k ≤ 255) (h0 : 0 ≤ a) (h1 : a ≤ 268435455) (hbn : ¬ (0 ≤ b ∧ b ≤ 268435455)) :
    Calls Try.prog 6 #[.int .i64 a, .int .i64 b, .string ⟨l.toArray⟩, .int .u8 k] w fun e w' => e = .returned (.bool true) ∧ Below w.heap.size w w' := by
  have hb : Below w.heap.size w w := Below.refl _ _
  have hd : decide (a < 0) = false := by simp; omega
  have hd1 : decide (268435455 < a) = false := by simp; omega
  have hla := lenL_len 3 a
  have hlz := Lib.hid (lenL_size a h0 h1)
  obtain ⟨hz0, hz4⟩ := sizeF_bd a
  have hl1 : 1 ≤ (lenL 3 a).length := by have := hlz.out; omega
  have hback : Hid (rdR (lenL 3 a ++ l) = (a, ((lenL 3 a).length : Int), 0)) := by show _ = _; rw [rdR_back a l h0 h1, hlz.out]
  have hcut := Lib.hid (rdR_cut a · h0 h1)
  generalize hL : lenL 3 a = L at *
  have HL := Lib.hid hL
  clear hL
  have had := fun W => add_str (P := Try.prog) W L l (by omega)
  have hm0 : 0 ≤ k % (L.length : Int) := Int.emod_nonneg _ (by omega)
  have hm1 : k % (L.length : Int) < (L.length : Int) := Int.emod_lt_of_pos _ (by omega)
  have hcut2 := Lib.hid (hcut.out (k % (L.length : Int)).toNat (by omega))
  have hbr : Hid (lenR b = ([], 1)) := by show _ = _; unfold lenR; rw [if_neg hbn]
  clear hcut
  go_enter Try.func6, Try.ntmps6
  go_wp2_with fail
  refine (great_no l _ hl).mono ?_
  rintro e w1 ⟨rfl, rfl⟩
  go_wp2_with fail
  refine (numLen_eq a L _ h0 h1 HL.out).mono ?_
  rintro e w1 ⟨rfl, hb1⟩
  replace hb := below_more hb hb1
  clear hb1
  go_wp2_with fail
  refine (numLen_all b _).mono ?_
  rintro e w1 ⟨rfl, hb1⟩
  replace hb := below_more hb hb1
  clear hb1
  rw [hbr.out]
  go_wp2_with fail
  refine (numReadLen_eq _ _ _ _ _ (by simp; omega) hback.out).mono ?_
  rintro e w1 ⟨rfl, rfl⟩
  go_wp2_with fail
  refine (numSize_eq a _ _ h0 h1 hlz.out.symm).mono ?_
  rintro e w1 ⟨rfl, rfl⟩
  go_wp2_with fail
  refine (numReadLen_eq _ _ _ _ _ (by simp; omega) hcut2.out).mono ?_
  rintro e w1 ⟨rfl, rfl⟩
  go_wp2_with fail
  go_ret
  exact ⟨rfl, hb⟩
set_option maxRecDepth 100000 in
theorem numBack_same (a : Int) (l : List UInt8) (k : Int) (w : World) (hl : l.length ≤ 2000) (k0 : 0 ≤ k) (k1 : k ≤ 255) (h0 : 0 ≤ a) (h1 : a ≤ 268435455) :
    Calls Try.prog 6 #[.int .i64 a, .int .i64 a, .string ⟨l.toArray⟩, .int .u8 k] w fun e w' => e = .returned (.bool true) ∧ Below w.heap.size w w' := by
  have hb : Below w.heap.size w w := Below.refl _ _
  have hd : decide (a < 0) = false := by simp; omega
  have hd1 : decide (268435455 < a) = false := by simp; omega
  have hla := lenL_len 3 a
  have hlz := Lib.hid (lenL_size a h0 h1)
  obtain ⟨hz0, hz4⟩ := sizeF_bd a
  have hl1 : 1 ≤ (lenL 3 a).length := by have := hlz.out; omega
  have hback : Hid (rdR (lenL 3 a ++ l) = (a, ((lenL 3 a).length : Int), 0)) := by show _ = _; rw [rdR_back a l h0 h1, hlz.out]
  have hcut := Lib.hid (rdR_cut a · h0 h1)
  generalize hL : lenL 3 a = L at *
  have HL := Lib.hid hL
  clear hL
  have had := fun W => add_str (P := Try.prog) W L l (by omega)
  have hm0 : 0 ≤ k % (L.length : Int) := Int.emod_nonneg _ (by omega)
  have hm1 : k % (L.length : Int) < (L.length : Int) := Int.emod_lt_of_pos _ (by omega)
  have hcut2 := Lib.hid (hcut.out (k % (L.length : Int)).toNat (by omega))
  clear hcut
  go_enter Try.func6, Try.ntmps6
  go_wp2_with fail
  refine (great_no l _ hl).mono ?_
  rintro e w1 ⟨rfl, rfl⟩
  go_wp2_with fail
  refine (numLen_eq a L _ h0 h1 HL.out).mono ?_
  rintro e w1 ⟨rfl, hb1⟩
  replace hb := below_more hb hb1
  clear hb1
  go_wp2_with fail
  refine (numLen_eq a L _ h0 h1 HL.out).mono ?_
  rintro e w1 ⟨rfl, hb1⟩
  replace hb := below_more hb hb1
  clear hb1
  go_wp2_with fail
  refine (numReadLen_eq _ _ _ _ _ (by simp; omega) hback.out).mono ?_
  rintro e w1 ⟨rfl, rfl⟩
  go_wp2_with fail
  refine (numSize_eq a _ _ h0 h1 hlz.out.symm).mono ?_
  rintro e w1 ⟨rfl, rfl⟩
  go_wp2_with fail
  refine (numReadLen_eq _ _ _ _ _ (by simp; omega) hcut2.out).mono ?_
  rintro e w1 ⟨rfl, rfl⟩
  go_wp2_with fail
  refine (awake_any _).mono ?_
  rintro e w1 ⟨rfl, hb1⟩
  replace hb := below_more hb hb1
  clear hb1
  go_wp2_with fail
  go_ret
  exact ⟨rfl, hb⟩
set_option maxRecDepth 100000 in
theorem numBack_gt (a b : Int) (l : List UInt8) (k : Int) (w : World) (hl : l.length ≤ 2000) (k0 : 0 ≤ k) (k1 : k ≤ 255) (h0 : 0 ≤ a) (h1 : a ≤ 268435455) (b0 : 0 ≤ b) (b1 : b ≤ 268435455) (hgt : b < a) :
    Calls Try.prog 6 #[.int .i64 a, .int .i64 b, .string ⟨l.toArray⟩, .int .u8 k] w fun e w' => e = .returned (.bool true) ∧ Below w.heap.size w w' := by
  have hb : Below w.heap.size w w := Below.refl _ _
  have hd : decide (a < 0) = false := by simp; omega
  have hd1 : decide (268435455 < a) = false := by simp; omega
  have hla := lenL_len 3 a
  have hlz := Lib.hid (lenL_size a h0 h1)
  obtain ⟨hz0, hz4⟩ := sizeF_bd a
  have hl1 : 1 ≤ (lenL 3 a).length := by have := hlz.out; omega
  have hback : Hid (rdR (lenL 3 a ++ l) = (a, ((lenL 3 a).length : Int), 0)) := by show _ = _; rw [rdR_back a l h0 h1, hlz.out]
  have hcut := Lib.hid (rdR_cut a · h0 h1)
  have hne : a ≠ b := by omega
  have hd2 : decide (b < a) = true := by simp; omega
  have hab : (a == b) = false := by simpa using hne
  have hLM : (lenL 3 a == lenL 3 b) = false := by
    rw [beq_eq_false_iff_ne]
    exact fun h => hne (lenL_inj a b h0 h1 b0 b1 h)
  have hmono : a ≤ b → (lenL 3 a).length ≤ (lenL 3 b).length := fun h => by
    have h1 := sizeF_mono a b h
    have h2 := hlz.out
    have h3 := lenL_size b b0 b1
    omega
  generalize hM : lenL 3 b = M at *
  clear hmono
  have HM := Lib.hid hM
  clear hM
  generalize hL : lenL 3 a = L at *
  have HL := Lib.hid hL
  clear hL
  have had := fun W => add_str (P := Try.prog) W L l (by omega)
  have hm0 : 0 ≤ k % (L.length : Int) := Int.emod_nonneg _ (by omega)
  have hm1 : k % (L.length : Int) < (L.length : Int) := Int.emod_lt_of_pos _ (by omega)
  have hcut2 := Lib.hid (hcut.out (k % (L.length : Int)).toNat (by omega))
  clear hcut
  go_enter Try.func6, Try.ntmps6
  go_wp2_with fail
  refine (great_no l _ hl).mono ?_
  rintro e w1 ⟨rfl, rfl⟩
  go_wp2_with fail
  refine (numLen_eq a L _ h0 h1 HL.out).mono ?_
  rintro e w1 ⟨rfl, hb1⟩
  replace hb := below_more hb hb1
  clear hb1
  go_wp2_with fail
  refine (numLen_eq b M _ b0 b1 HM.out).mono ?_
  rintro e w1 ⟨rfl, hb1⟩
  replace hb := below_more hb hb1
  clear hb1
  go_wp2_with fail
  refine (numReadLen_eq _ _ _ _ _ (by simp; omega) hback.out).mono ?_
  rintro e w1 ⟨rfl, rfl⟩
  go_wp2_with fail
  refine (numSize_eq a _ _ h0 h1 hlz.out.symm).mono ?_
  rintro e w1 ⟨rfl, rfl⟩
  go_wp2_with fail
  refine (numReadLen_eq _ _ _ _ _ (by simp; omega) hcut2.out).mono ?_
  rintro e w1 ⟨rfl, rfl⟩
  go_wp2_with fail
  refine (awake_any _).mono ?_
  rintro e w1 ⟨rfl, hb1⟩
  replace hb := below_more hb hb1
  clear hb1
  go_wp2_with fail
  go_ret
  exact ⟨rfl, hb⟩
set_option maxRecDepth 100000 in
theorem numBack_lt (a b : Int) (l : List UInt8) (k : Int) (w : World) (hl : l.length ≤ 2000) (k0 : 0 ≤ k) (k1 : k ≤ 255) (h0 : 0 ≤ a) (h1 : a ≤ 268435455) (b0 : 0 ≤ b) (b1 : b ≤ 268435455) (hgt : a < b) :
    Calls Try.prog 6 #[.int .i64 a, .int .i64 b, .string ⟨l.toArray⟩, .int .u8 k] w fun e w' => e = .returned (.bool true) ∧ Below w.heap.size w w' := by
  have hb : Below w.heap.size w w := Below.refl _ _
  have hd : decide (a < 0) = false := by simp; omega
  have hd1 : decide (268435455 < a) = false := by simp; omega
  have hla := lenL_len 3 a
  have hlz := Lib.hid (lenL_size a h0 h1)
  obtain ⟨hz0, hz4⟩ := sizeF_bd a
  have hl1 : 1 ≤ (lenL 3 a).length := by have := hlz.out; omega
  have hback : Hid (rdR (lenL 3 a ++ l) = (a, ((lenL 3 a).length : Int), 0)) := by show _ = _; rw [rdR_back a l h0 h1, hlz.out]
  have hcut := Lib.hid (rdR_cut a · h0 h1)
  have hne : a ≠ b := by omega
  have hd2 : decide (b < a) = false := by simp; omega
  have hab : (a == b) = false := by simpa using hne
  have hLM : (lenL 3 a == lenL 3 b) = false := by
    rw [beq_eq_false_iff_ne]
    exact fun h => hne (lenL_inj a b h0 h1 b0 b1 h)
  have hmono : a ≤ b → (lenL 3 a).length ≤ (lenL 3 b).length := fun h => by
    have h1 := sizeF_mono a b h
    have h2 := hlz.out
    have h3 := lenL_size b b0 b1
    omega
  generalize hM : lenL 3 b = M at *
  have hle := hmono (by omega)
  clear hmono
  have hd3 : decide ((lenL 3 a).length ≤ M.length) = true := by simpa using hle
  have HM := Lib.hid hM
  clear hM
  generalize hL : lenL 3 a = L at *
  have HL := Lib.hid hL
  clear hL
  have had := fun W => add_str (P := Try.prog) W L l (by omega)
  have hm0 : 0 ≤ k % (L.length : Int) := Int.emod_nonneg _ (by omega)
  have hm1 : k % (L.length : Int) < (L.length : Int) := Int.emod_lt_of_pos _ (by omega)
  have hcut2 := Lib.hid (hcut.out (k % (L.length : Int)).toNat (by omega))
  clear hcut
  go_enter Try.func6, Try.ntmps6
  go_wp2_with fail
  refine (great_no l _ hl).mono ?_
  rintro e w1 ⟨rfl, rfl⟩
  go_wp2_with fail
  refine (numLen_eq a L _ h0 h1 HL.out).mono ?_
  rintro e w1 ⟨rfl, hb1⟩
  replace hb := below_more hb hb1
  clear hb1
  go_wp2_with fail
  refine (numLen_eq b M _ b0 b1 HM.out).mono ?_
  rintro e w1 ⟨rfl, hb1⟩
  replace hb := below_more hb hb1
  clear hb1
  go_wp2_with fail
  refine (numReadLen_eq _ _ _ _ _ (by simp; omega) hback.out).mono ?_
  rintro e w1 ⟨rfl, rfl⟩
  go_wp2_with fail
  refine (numSize_eq a _ _ h0 h1 hlz.out.symm).mono ?_
  rintro e w1 ⟨rfl, rfl⟩
  go_wp2_with fail
  refine (numReadLen_eq _ _ _ _ _ (by simp; omega) hcut2.out).mono ?_
  rintro e w1 ⟨rfl, rfl⟩
  go_wp2_with fail
  refine (awake_any _).mono ?_
  rintro e w1 ⟨rfl, hb1⟩
  replace hb := below_more hb hb1
  clear hb1
  go_wp2_with fail
  go_ret
  exact ⟨rfl, hb⟩
end Go.Proofs.Ytakknofacikiaaa

namespace Go.Proofs.Ytakknofacikiaaa.lawNumBack
open Go.RowKit Go.ChangeShapes Go.WideShapes Go.ChangeAt
open Go.ChangeMaps (open_string shut_string)
theorem walk (w : World) (a : Int) (_wa : (Lit.int .i64 a).wf = true) (b : Int) (_wb : (Lit.int .i64 b).wf = true) (l : List UInt8) (_hl : l.length ≤ 9223372036854775807) (k : Int) (wk : (Lit.int .u8 k).wf = true) :
    Calls Try.prog 6 #[.int .i64 a, .int .i64 b, .string ⟨l.toArray⟩, .int .u8 k] w fun e w' => e = .returned (.bool true) ∧ Below w.heap.size w w' := by
  have hk : 0 ≤ k ∧ k ≤ 255 := by simpa [Lit.wf, IntKind.min, IntKind.max, IntKind.signed, IntKind.bits] using wk
  by_cases hg : 2000 < l.length
  · exact numBack_great a b l k w hg
  · by_cases h1 : a < 0
    · exact numBack_lo a b l k w (by omega) h1
    · by_cases h2 : 268435455 < a
      · exact numBack_hi a b l k w (by omega) h2
      · by_cases h3 : 0 ≤ b ∧ b ≤ 268435455
        · by_cases h4 : a = b
          · subst h4
            exact numBack_same a l k w (by omega) hk.1 hk.2 (by omega) (by omega)
          · by_cases h5 : b < a
            · exact numBack_gt a b l k w (by omega) hk.1 hk.2 (by omega) (by omega) h3.1 h3.2 h5
            · exact numBack_lt a b l k w (by omega) hk.1 hk.2 (by omega) (by omega) h3.1 h3.2 (by omega)
        · exact numBack_in a b l k w (by omega) hk.1 hk.2 (by omega) (by omega) h3
set_option maxRecDepth 100000 in
theorem lifted (os : Os) (started : os.Started) (H : Type) (enc : TypeId × Value → H) :
    ReturnsInHanded {} Try.checked os 6 .any (Rows.numBackSpec.pre6 enc Try.prog Try.f6 Rows.numBackRow.domain false) (Rows.numBackSpec.post enc Try.prog Try.f6 false true false false) := by
  refine returnsInHanded_of_change (C := Try.checked) own_none started (by kernel_rfl) Try.func6
    (ChangeSpec.witness6 (enc := enc) (C := Try.checked) false ⟨#[], #[.int .i64 0, .int .i64 0, .string ByteArray.empty, .int .u8 0], []⟩ 8 (by kernel_rfl) (by kernel_rfl) (by kernel_rfl) (by kernel_rfl)) ?_
  intro W base args ds gs before hval0 hW hcnd _
  have hval : ∀ (j : Nat) t v, Try.f6.params[j]? = some t → args[j]? = some v → Value.okWide Try.prog W .any base t v := hval0
  have hWk := hW
  obtain ⟨p, q, hA0, hV, hbef, _, _⟩ := hWk
  have hA : DataW.TrodAll enc Try.prog W 0 (fun _ => true) true Try.f6.params.toList args.toList ds p := hA0
  obtain ⟨rfl, rfl⟩ := trodVars_none hV
  rw [Try.params6] at hA hval
  obtain ⟨v0, vs0, d0, ds0, p0, q0, hargs, rfl, hp0, h0, r0⟩ := trodAll_cons hA
  obtain ⟨v1, vs1, d1, ds1, p1, q1, rfl, rfl, hp1, h1, r1⟩ := trodAll_cons r0
  obtain ⟨v2, vs2, d2, ds2, p2, q2, rfl, rfl, hp2, h2, r2⟩ := trodAll_cons r1
  obtain ⟨v3, vs3, d3, ds3, p3, q3, rfl, rfl, hp3, h3, r3⟩ := trodAll_cons r2
  obtain ⟨rfl, rfl, hpn⟩ := trodAll_nil r3
  obtain rfl : args = #[v0, v1, v2, v3] := by cases args; simp_all
  obtain ⟨a0, rfl, rfl, hx0, w0⟩ := open_int Try.underlying3 (hval 0 3 v0 rfl rfl) h0
  obtain ⟨a1, rfl, rfl, hx1, w1⟩ := open_int Try.underlying3 (hval 1 3 v1 rfl rfl) h1
  obtain ⟨s2, rfl, rfl, hx2, w2⟩ := open_string Try.underlying9 (hval 2 9 v2 rfl rfl) h2
  obtain ⟨a2, rfl, hl2⟩ := str_of s2
  obtain ⟨a3, rfl, rfl, hx3, w3⟩ := open_int Try.underlying5 (hval 3 5 v3 rfl rfl) h3
  refine (walk W a0 w0 a1 w1 a2 (by unfold maxLen at w2; omega) a3 w3).mono fun e W' ⟨he, hg⟩ => ?_
  subst he
  exact ⟨_, rfl, law_post laid_out (by kernel_rfl) rfl (by kernel_rfl) Try.underlying4 hW rfl hg⟩

theorem over : Rows.numBackRow.holds Try.pinned (OpenSpec.ofChange Rows.numBackSpec) :=
  OpenClaim.holds_of_wide 6 Try.f6 rfl rfl rfl rfl rfl rfl rfl ⟨rfl, rfl, rfl, rfl, rfl⟩ rfl rfl rfl rfl rfl (by kernel_rfl) Try.func6 (by kernel_rfl)
    (of_decide_eq_true (by kernel_rfl)) (by unfold Func.isWrapper; first | (rw [if_pos (by decide +kernel)]; kernel_rfl) | (rw [if_neg (by decide +kernel)]; exact ⟨rfl, rfl⟩))
    (fun os started H enc _ => lifted os started H enc)

/-- THE STATEMENT. -/
theorem proved : Rows.NumBackSaid :=
  over
end Go.Proofs.Ytakknofacikiaaa.lawNumBack
