/-
  NumLonger: the law's walk.
-/
import Derived.Test.YtakknofacikiaaaNumBack
namespace Go.Proofs.Ytakknofacikiaaa
open Go.RowKit

theorem numLonger_great (l : List UInt8) (w : World) (hl : 2000 < l.length) :
    Calls Try.prog 7 #[.string ⟨l.toArray⟩] w fun e w' => e = .returned (.bool true) ∧ Below w.heap.size w w' := by
  have hb : Below w.heap.size w w := Below.refl _ _
  go_enter Try.func7, Try.ntmps7
  go_wp2_with fail
  refine (great_yes l _ hl).mono ?_
  rintro e w1 ⟨rfl, rfl⟩
  go_wp2_with fail
  refine (awake_any _).mono ?_
  rintro e w1 ⟨rfl, hb1⟩
  replace hb := below_more hb hb1
  clear hb1
  go_wp2_with fail
  go_ret
  exact ⟨rfl, hb⟩
theorem numLonger_bad (l : List UInt8) (w : World) (hl : l.length ≤ 2000) (c : Int) (h : rdR l = (0, 0, c)) (hc : c = 2 ∨ c = 4) :
    Calls Try.prog 7 #[.string ⟨l.toArray⟩] w fun e w' => e = .returned (.bool true) ∧ Below w.heap.size w w' := by
  have hb : Below w.heap.size w w := Below.refl _ _
  have h := Lib.hid h
  rcases hc with rfl | rfl
  all_goals
    go_enter Try.func7, Try.ntmps7
    go_wp2_with fail
    refine (great_no l _ hl).mono ?_
    rintro e w1 ⟨rfl, rfl⟩
    go_wp2_with fail
    refine (numReadLen_eq _ _ _ _ _ (by omega) h.out).mono ?_
    rintro e w1 ⟨rfl, rfl⟩
    go_wp2_with fail
    refine (awake_any _).mono ?_
    rintro e w1 ⟨rfl, hb1⟩
    replace hb := below_more hb hb1
    clear hb1
    go_wp2_with fail
    go_ret
    exact ⟨rfl, hb⟩

/-- How long a string in a slot is. -/
def strLen : Value → Nat | .string s => s.size | _ => 0
theorem strLen_mk (l : List UInt8) : strLen (.string ⟨l.toArray⟩) = l.length := by
  show (ByteArray.mk l.toArray).size = _
  simp [ByteArray.size_mk']
theorem quo_lt (n : Int) (i : Nat) (h : n < 128 ^ (i + 1)) : n / pw i < 128 := by
  rw [pw_nat]
  refine Int.ediv_lt_of_lt_mul (Int.pow_pos (by omega)) ?_
  rw [Int.mul_comm, ← Int.pow_succ]; exact h
theorem quo_zero (n : Int) (i : Nat) (h0 : 0 ≤ n) (h : n < 128 ^ (i + 1)) : n / pw (i + 1 : Nat) = 0 := by
  rw [pw_nat]
  exact Int.ediv_eq_zero_of_lt h0 h

set_option maxRecDepth 100000 in
set_option maxHeartbeats 400000 in
theorem numLonger_ok (l : List UInt8) (w : World) (hl : l.length ≤ 2000) (n : Int) (j : Nat) (h : rdR l = (n, (j : Int) + 1, 0)) (hj : j ≤ 3) (hjl : j < l.length) (h0 : 0 ≤ n) (h1 : n < 128 ^ (j + 1)) (ht : l.take (j + 1) = encF j n) :
    Calls Try.prog 7 #[.string ⟨l.toArray⟩] w fun e w' => e = .returned (.bool true) ∧ Below w.heap.size w w' := by
  have hb : Below w.heap.size w w := Below.refl _ _
  have h2 : n ≤ 268435455 := by
    have : (128 : Int) ^ (j + 1) ≤ 128 ^ 4 := by
      rcases (show j = 0 ∨ j = 1 ∨ j = 2 ∨ j = 3 from by omega) with rfl | rfl | rfl | rfl <;> decide
    omega
  obtain ⟨z, hz, hz3, hnz, hL, hzj⟩ := lenL_enc n h0 h2
  have hzj := hzj j h1
  have HL := Lib.hid hL
  have h := Lib.hid h
  have hlen := Lib.hid (encF_len z n)
  have hge : 1 ≤ (encF z n).length := by have := hlen.out; omega
  have hge2 : (encF z n).length ≤ j + 1 := by have := hlen.out; omega
  have hlast := encF_last z n h0
  have hlt : (encF z n).length - 1 < (encF z n).length := by omega
  have hg := byte_at (encF z n) ((encF z n).length - 1) hlt hlt
  clear hL hz
  go_enter Try.func7, Try.ntmps7
  go_wp2_with fail
  refine (great_no l _ hl).mono ?_
  rintro e w1 ⟨rfl, rfl⟩
  go_wp2_with fail
  refine (numReadLen_eq _ _ _ _ _ (by omega) h.out).mono ?_
  rintro e w1 ⟨rfl, rfl⟩
  go_wp2_with fail
  refine (numLen_eq n _ _ h0 h2 HL.out).mono ?_
  rintro e w1 ⟨rfl, hb1⟩
  replace hb := below_more hb hb1
  clear hb1
  go_wp2_with fail
  go_loopw [6, 8] (fun t x wr => ∃ (i : Nat) (T : List UInt8) (q : Int), t = .string ⟨T.toArray⟩ ∧ x = .int .u8 q ∧ 0 ≤ q ∧ q < 128 ∧ i ≤ j ∧ 1 ≤ T.length ∧ T.length ≤ j + 1 ∧ Hid (T.length = i + 1) ∧ Hid (T = encF i n) ∧ Hid (q = n / pw i) ∧ Hid (n < 128 ^ (i + 1)) ∧ Below w.heap.size w wr) (fun t _ _ => j + 1 - strLen t)
  case atStart =>
    have e : ((encF z n)[(encF z n).length - 1].toNat : Int) = n / pw z := by
      have h3 := hlen.out
      have h4 : (encF z n)[(encF z n).length - 1]? = some (toB (n / pw z)) := by rw [show (encF z n).length - 1 = z from by omega]; exact hlast
      rw [List.getElem?_eq_getElem hlt] at h4
      have h5 := Option.some.inj h4
      rw [h5]
      exact toB_toNat _ (Int.ediv_nonneg h0 (by have := pw_pos z; omega)) (by have := quo_lt n z hnz; omega)
    refine ⟨z, encF z n, n / pw z, rfl, by rw [e], Int.ediv_nonneg h0 (by have := pw_pos z; omega), quo_lt n z hnz, hzj, hge, hge2, hlen.out, rfl, rfl, hnz, hb⟩
  case round =>
    obtain ⟨i, T, q, rfl, rfl, hq0, hq1, hij, hT1, hT2, hTl, hTe, hqe, hni, hb⟩ := hrel
    by_cases hlt : T.length < j + 1
    · have hcv := fun W => conv_new2d (P := Try.prog) (S := 9) Try.underlying42 Try.underlying5 Try.underlying9 W (q + 128) 0 (by omega) (by omega) (by omega) (by omega)
      go_wp2_with fail
      go_region
      go_wp2_with fail
      go_roundw
      case rel =>
        have e1 := hTl.out
        have e2 := encF_step i n h0 hni.out
        refine ⟨i + 1, _, 0, rfl, rfl, by omega, by omega, by omega, by simp, by simp; omega, by show _ = _; simp; omega, ?_, ?_, ?_, (below_alloc hb _).drew⟩
        · show _ = _
          rw [e2, show T.length - 1 = i from by omega, hTe.out, hqe.out]
        · exact (quo_zero n i h0 hni.out).symm
        · show n < _
          have := hni.out
          rw [Int.pow_succ]; omega
      case measure => simp only [strLen_mk]; simp; omega
    · have hcv := fun W => conv_new2d (P := Try.prog) (S := 9) Try.underlying42 Try.underlying5 Try.underlying9 W (q + 128) 0 (by omega) (by omega) (by omega) (by omega)
      have hij2 : i = j := by have := hTl.out; omega
      subst hij2
      have hTe2 := hTe.out
      subst hTe2
      have hg2 := byte_at l i hjl hjl
      have hli : Hid (l[i]? = some (toB q)) := by
        show _ = _
        have := encF_last i n h0
        rw [← ht, List.getElem?_take_of_lt (by omega), ← hqe.out] at this
        exact this
      rw [show l[i] = toB q from by have := hli.out; rw [List.getElem?_eq_getElem hjl] at this; exact Option.some.inj this] at hg2
      have hq := toB_toNat q hq0 (by omega)
      have htk : (encF i n).take i = l.take i := by rw [← ht, List.take_take, Nat.min_eq_left (by omega)]
      have e2 : Hid (l.take i ++ [toB (q + 128), toB 0] = encF (i + 1) n) := by show _ = _; rw [encF_step i n h0 hni.out, htk, hqe.out]
      clear htk
      by_cases hi3 : i = 3
      · have e3 : Hid (rdR (l.take i ++ [toB (q + 128), toB 0]) = (0, 0, 4)) := by show _ = _; rw [e2.out, hi3]; exact rdR_enc4 n
        subst hi3
        go_wp2_with fail
        go_region
        replace hb := (below_alloc hb (.cells #[.int .u8 (q + 128), .int .u8 0] 5)).drew
        go_wp2_with fail
        refine (numReadLen_eq _ _ _ _ _ (by simp; omega) e3.out).mono ?_
        rintro e w1 ⟨rfl, rfl⟩
        go_wp2_with fail
        refine (awake_any _).mono ?_
        rintro e w1 ⟨rfl, hb1⟩
        replace hb := below_more hb hb1
        clear hb1
        go_wp2_with fail
        go_ret
        exact ⟨rfl, hb⟩
      · have hi4 : ((i : Int) + 1 == 4) = false := by simp; omega
        have e3 : Hid (rdR (l.take i ++ [toB (q + 128), toB 0]) = (n, (i : Int) + 2, 0)) := by
          show _ = _
          rw [e2.out, rdR_enc (i + 1) n (by omega) h0 (by have := hni.out; rw [Int.pow_succ]; omega)]
          simp; omega
        have hi5 : ((i : Int) + 2 == (i : Int) + 1 + 1) = true := by simp; omega
        go_wp2_with fail
        go_region
        replace hb := (below_alloc hb (.cells #[.int .u8 (q + 128), .int .u8 0] 5)).drew
        go_wp2_with fail
        refine (numReadLen_eq _ _ _ _ _ (by simp; omega) e3.out).mono ?_
        rintro e w1 ⟨rfl, rfl⟩
        go_wp2_with fail
        refine (awake_any _).mono ?_
        rintro e w1 ⟨rfl, hb1⟩
        replace hb := below_more hb hb1
        clear hb1
        go_wp2_with fail
        go_ret
        exact ⟨rfl, hb⟩
end Go.Proofs.Ytakknofacikiaaa

namespace Go.Proofs.Ytakknofacikiaaa.lawNumLonger
open Go.RowKit Go.ChangeShapes Go.WideShapes Go.ChangeAt
open Go.ChangeMaps (open_string shut_string)
theorem walk (w : World) (l : List UInt8) (_hl : l.length ≤ 9223372036854775807) :
    Calls Try.prog 7 #[.string ⟨l.toArray⟩] w fun e w' => e = .returned (.bool true) ∧ Below w.heap.size w w' := by
  by_cases hg : 2000 < l.length
  · exact numLonger_great l w hg
  · rcases rdR_bad l with ⟨n, c, h⟩ | h | h
    · obtain ⟨j, hj, rfl, hjl, h0, h1, ht⟩ := rdR_ok l n c h
      exact numLonger_ok l w (by omega) n j h hj hjl h0 h1 ht
    · exact numLonger_bad l w (by omega) 2 h (Or.inl rfl)
    · exact numLonger_bad l w (by omega) 4 h (Or.inr rfl)
set_option maxRecDepth 100000 in
theorem lifted (os : Os) (started : os.Started) (H : Type) (enc : TypeId × Value → H) :
    ReturnsInHanded {} Try.checked os 7 .any (Rows.numLongerSpec.pre6 enc Try.prog Try.f7 Rows.numLongerRow.domain false) (Rows.numLongerSpec.post enc Try.prog Try.f7 false true false false) := by
  refine returnsInHanded_of_change (C := Try.checked) own_none started (by kernel_rfl) Try.func7
    (ChangeSpec.witness6 (enc := enc) (C := Try.checked) false ⟨#[], #[.string ByteArray.empty], []⟩ 8 (by kernel_rfl) (by kernel_rfl) (by kernel_rfl) (by kernel_rfl)) ?_
  intro W base args ds gs before hval0 hW hcnd _
  have hval : ∀ (j : Nat) t v, Try.f7.params[j]? = some t → args[j]? = some v → Value.okWide Try.prog W .any base t v := hval0
  have hWk := hW
  obtain ⟨p, q, hA0, hV, hbef, _, _⟩ := hWk
  have hA : DataW.TrodAll enc Try.prog W 0 (fun _ => true) true Try.f7.params.toList args.toList ds p := hA0
  obtain ⟨rfl, rfl⟩ := trodVars_none hV
  rw [Try.params7] at hA hval
  obtain ⟨v0, vs0, d0, ds0, p0, q0, hargs, rfl, hp0, h0, r0⟩ := trodAll_cons hA
  obtain ⟨rfl, rfl, hpn⟩ := trodAll_nil r0
  obtain rfl : args = #[v0] := by cases args; simp_all
  obtain ⟨s0, rfl, rfl, hx0, w0⟩ := open_string Try.underlying9 (hval 0 9 v0 rfl rfl) h0
  obtain ⟨a0, rfl, hl0⟩ := str_of s0
  refine (walk W a0 (by unfold maxLen at w0; omega)).mono fun e W' ⟨he, hg⟩ => ?_
  subst he
  exact ⟨_, rfl, law_post laid_out (by kernel_rfl) rfl (by kernel_rfl) Try.underlying4 hW rfl hg⟩

theorem over : Rows.numLongerRow.holds Try.pinned (OpenSpec.ofChange Rows.numLongerSpec) :=
  OpenClaim.holds_of_wide 7 Try.f7 rfl rfl rfl rfl rfl rfl rfl ⟨rfl, rfl, rfl, rfl, rfl⟩ rfl rfl rfl rfl rfl (by kernel_rfl) Try.func7 (by kernel_rfl)
    (of_decide_eq_true (by kernel_rfl)) (by unfold Func.isWrapper; first | (rw [if_pos (by decide +kernel)]; kernel_rfl) | (rw [if_neg (by decide +kernel)]; exact ⟨rfl, rfl⟩))
    (fun os started H enc _ => lifted os started H enc)

/-- THE STATEMENT. -/
theorem proved : Rows.NumLongerSaid :=
  over
end Go.Proofs.Ytakknofacikiaaa.lawNumLonger
