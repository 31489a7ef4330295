/-
  shard: what each function answers.
-/
import Derived.Test.YtiiojdlmbfkkhaaDoorShMath
import Derived.Test.YtiiojdlmbfkkhaaDoorTpTop
set_option linter.unusedSimpArgs false
set_option linter.unusedVariables false
namespace Go.Proofs.YtiiojdlmbfkkhaaDoor
open Go.RowKit

theorem stp_int (q : Nat) (b : UInt8) (hq : q < 18446744073709551616) : Value.int .u64 (IntKind.u64.wrap (bits .xor .u64 (q : Int) (IntKind.u64.wrap (b.toNat : Int)) * 1099511628211)) = Value.int .u64 (stp q b : Int) := by
  have hb := b.toNat_lt
  rw [show IntKind.u64.wrap (b.toNat : Int) = (b.toNat : Int) by rw [IntKind.wrap_u64]; omega, u64_xor_nat q b.toNat hq (by have := b.toNat_lt; omega), IntKind.wrap_u64]
  unfold stp
  generalize q ^^^ b.toNat = x
  exact congrArg (Value.int .u64) (by omega)
theorem shHash_eq (A : Option Addr) (n c : Nat) (xs : List (List UInt8)) (h : Nat) (w : World) (hs : Strs w A n xs) (hn : n ≤ 1000000000) (hx : Hid (∀ x ∈ xs, x.length ≤ 1000000000)) (hh : hsh xs.flatten = h) :
    Calls Tryd.prog 11 #[.slice A n c] w fun e w' => e = .returned (.int .u64 (h : Int)) ∧ w = w' := by
  have HL := Lib.hid hs.len
  have H := Lib.hid hh
  clear hh
  go_enter Tryd.func11, Tryd.ntmps11
  go_wp2_with fail
  go_loop [3, 5, 6, 9] (fun s _ _ i => ∃ (k q : Nat), i = .int .i64 k ∧ s = .int .u64 (q : Int) ∧ k ≤ n ∧ q < 18446744073709551616 ∧ Hid (hsh (xs.take k).flatten = q)) (fun _ _ _ i => n - (intOf i).toNat)
  case atStart => exact ⟨0, 14695981039346656037, rfl, rfl, by omega, by omega, hsh_none xs⟩
  case round =>
    obtain ⟨k, q, rfl, rfl, hk, hq, hc⟩ := hrel
    by_cases hlt : k < n
    · obtain ⟨bk, off, x, rfl, hx1, hcell⟩ := hs.at_ hlt
      have hxl := hx.out x (List.mem_of_getElem? hx1)
      have HT := Lib.hid (hsh_flat xs k x hx1)
      clear hx1
      go_wp2_with fail
      go_loop [3, 6, 15] (fun s _ i => ∃ (j p : Nat), i = .int .i64 j ∧ s = .int .u64 (p : Int) ∧ j ≤ x.length ∧ p < 18446744073709551616 ∧ Hid (fnv q (x.take j) = p)) (fun _ _ i => x.length - (intOf i).toNat)
      case atStart => exact ⟨0, q, rfl, rfl, by omega, hq, rfl⟩
      case round =>
        obtain ⟨j, p, rfl, rfl, hj, hp, hd⟩ := hrel
        by_cases hjl : j < x.length
        · have hy := byte_at x j hjl
          have HN : Hid (fnv q (x.take (j + 1)) = stp p x[j]) := by show _ = _; rw [fnv_take q x j x[j] (List.getElem?_eq_getElem hjl), hd.out]
          go_wp2_with fail
          go_round
          case rel => exact ⟨j + 1, stp p x[j], by go_num, stp_int p x[j] hp, by omega, stp_lt _ _, HN.out⟩
          case measure => simp [intOf]; omega
        · have hje : j = x.length := by omega
          have HN : Hid (hsh (xs.take (k + 1)).flatten = p) := by show _ = _; rw [HT.out, hc.out, ← hd.out, hje, List.take_length]
          clear hje
          go_wp2_with fail
          go_round
          case rel => exact ⟨k + 1, p, by go_num, rfl, by omega, hp, HN.out⟩
          case measure => simp [intOf]; omega
    · have HN : Hid (q = h) := by show _ = _; rw [← H.out, ← hc.out, List.take_of_length_le (by rw [HL.out]; omega)]
      go_wp2_with fail
      go_ret
      exact ⟨by rw [HN.out]; rfl, rfl⟩
theorem isMany_eq (n : Int) (b : Bool) (w : World) (h : manyB n = b) :
    Calls Tryd.prog 29 #[.int .i64 n] w fun e w' => e = .returned (.bool b) ∧ w = w' := by
  cases b with
  | true =>
    have h1 := many_yes h
    have h2 := h1.1
    have h3 := h1.2
    clear h h1
    go_enter Tryd.func29, Tryd.ntmps29
    go_wp2_with fail
    go_ret
    exact ⟨rfl, rfl⟩
  | false =>
    rcases many_no h with h1 | h1
    · have h2 : ¬ 1 ≤ n := by omega
      clear h h1
      go_enter Tryd.func29, Tryd.ntmps29
      go_wp2_with fail
      go_ret
      exact ⟨rfl, rfl⟩
    · have h2 : 1 ≤ n := by omega
      have h3 : ¬ n ≤ 64 := by omega
      clear h h1
      go_enter Tryd.func29, Tryd.ntmps29
      go_wp2_with fail
      go_ret
      exact ⟨rfl, rfl⟩
theorem pick_eq (l : List UInt8) (n v : Int) (w : World) (hl : l.length ≤ 1000000000) (h1 : 1 ≤ n) (h2 : n ≤ 64) (h : pickI l n = v) :
    Calls Tryd.prog 30 #[.string ⟨l.toArray⟩, .int .i64 n] w fun e w' => e = .returned (.int .i64 v) ∧ Below w.heap.size w w' := by
  have hb : Below w.heap.size w w := Below.refl _ _
  obtain ⟨q, hq⟩ : ∃ q, hsh [l].flatten = q := ⟨_, rfl⟩
  have hm : Hid (∀ x ∈ [l], x.length ≤ 1000000000) := by intro x hx; simp at hx; subst hx; exact hl
  have hqv : (q : Int) % n = v := by rw [← h, pickI, ← hq]; simp
  have hv := pickI_bd l n h1
  rw [h] at hv
  have hqb : 0 ≤ (q : Int) := by omega
  have hnw : IntKind.u64.wrap n = n := by rw [IntKind.wrap_u64]; omega
  have htm : (q : Int).tmod n = v := by rw [Int.tmod_eq_emod_of_nonneg hqb]; exact hqv
  have HQ := Lib.hid hq
  clear hq h hqv hqb
  go_enter Tryd.func30, Tryd.ntmps30
  go_wp2_with fail
  refine (shHash_eq _ 1 1 [l] q _ (strs_new1 _ _ _) (by omega) hm HQ.out).mono ?_
  rintro e w1 ⟨rfl, rfl⟩
  replace hb := below_alloc hb (.cells #[.string ⟨l.toArray⟩] 9)
  go_wp2_with fail
  go_ret
  exact ⟨rfl, hb⟩
theorem home_eq (l : List UInt8) (n v : Int) (w : World) (hl : l.length ≤ 1000000000) (h : homI l n = v) :
    Calls Tryd.prog 14 #[.string ⟨l.toArray⟩, .int .i64 n] w fun e w' => e = .returned (.int .i64 v) ∧ Below w.heap.size w w' := by
  have hb : Below w.heap.size w w := Below.refl _ _
  cases hm : manyB n with
  | false =>
    have H : -1 = v := by rw [← h, homI, hm]; rfl
    subst H
    have HM := Lib.hid hm
    clear h hm
    go_enter Tryd.func14, Tryd.ntmps14
    go_wp2_with fail
    refine (isMany_eq n false _ HM.out).mono ?_
    rintro e w1 ⟨rfl, rfl⟩
    go_wp2_with fail
    go_ret
    exact ⟨rfl, hb⟩
  | true =>
    have H : Hid (pickI l n = v) := by show _ = _; rw [← h, homI, hm]; rfl
    have hn := many_yes hm
    have HM := Lib.hid hm
    clear h hm
    go_enter Tryd.func14, Tryd.ntmps14
    go_wp2_with fail
    refine (isMany_eq n true _ HM.out).mono ?_
    rintro e w1 ⟨rfl, rfl⟩
    go_wp2_with fail
    refine (pick_eq l n v _ hl (by omega) (by omega) H.out).mono ?_
    rintro e w1 ⟨rfl, hb1⟩
    replace hb := below_more hb hb1
    clear hb1
    go_wp2_with fail
    go_ret
    exact ⟨rfl, hb⟩
theorem gate_eq (c n v : Int) (w : World) (hc : c ≤ 9223372036854775807) (h : gatI c n = v) :
    Calls Tryd.prog 16 #[.int .i64 c, .int .i64 n] w fun e w' => e = .returned (.int .i64 v) ∧ w = w' := by
  cases hm : manyB n with
  | false =>
    have H : -1 = v := by rw [← h, gatI, hm]; rfl
    subst H
    have HM := Lib.hid hm
    clear h hm
    go_enter Tryd.func16, Tryd.ntmps16
    go_wp2_with fail
    refine (isMany_eq n false _ HM.out).mono ?_
    rintro e w1 ⟨rfl, rfl⟩
    go_wp2_with fail
    go_ret
    exact ⟨rfl, rfl⟩
  | true =>
    have hn := many_yes hm
    have HM := Lib.hid hm
    by_cases h1 : 1 ≤ c
    · have hv : (c - 1) % n = v := by rw [← h, gatI, hm, decide_eq_true h1]; rfl
      have htm : (c - 1).tmod n = v := by rw [Int.tmod_eq_emod_of_nonneg (by omega)]; exact hv
      have i1 : ¬ c < 1 := by omega
      clear h hm hv
      go_enter Tryd.func16, Tryd.ntmps16
      go_wp2_with fail
      refine (isMany_eq n true _ HM.out).mono ?_
      rintro e w1 ⟨rfl, rfl⟩
      go_wp2_with fail
      go_ret
      exact ⟨rfl, rfl⟩
    · have H : -1 = v := by rw [← h, gatI, hm, decide_eq_false h1]; rfl
      subst H
      have i1 : c < 1 := by omega
      clear h hm h1
      go_enter Tryd.func16, Tryd.ntmps16
      go_wp2_with fail
      refine (isMany_eq n true _ HM.out).mono ?_
      rintro e w1 ⟨rfl, rfl⟩
      go_wp2_with fail
      go_ret
      exact ⟨rfl, rfl⟩
theorem nam_wil (l : List UInt8) (h : namB l = true) : wilB l = false := by
  have hp := (nam_parts h).2.2
  rw [plB_levs] at hp
  have h2 : plB (headL l) = true := List.all_eq_true.1 hp _ (by unfold headL; rw [levs_cons l]; simp)
  have h3 := pl_ne _ h2
  rw [fit_head l (nam_fil l h)]
  simp [h3.1, h3.2]
theorem firL_yes (l : List UInt8) (h1 : filB l = true) (h2 : wilB l = false) : firL l = (headL l, true) := by rw [firL, h1, h2]; rfl
theorem firL_no (l : List UInt8) (h2 : wilB l = true) : firL l = ([], false) := by rw [firL, h2]; simp
theorem hub_eq (l : List UInt8) (n v : Int) (w : World) (hG : Glo w) (hl : l.length ≤ 1000000) (h : hubI l n = v) :
    Calls Tryd.prog 18 #[.string ⟨l.toArray⟩, .int .i64 n] w fun e w' => e = .returned (.int .i64 v) ∧ Below w.heap.size w w' := by
  have hb : Below w.heap.size w w := Below.refl _ _
  have HG := Lib.hid hG
  clear hG
  cases hm : manyB n with
  | false =>
    have H : -1 = v := by rw [← h, hubI, hm]; rfl
    subst H
    have HM := Lib.hid hm
    clear h hm
    go_enter Tryd.func18, Tryd.ntmps18
    go_wp2_with fail
    refine (isMany_eq n false _ HM.out).mono ?_
    rintro e w1 ⟨rfl, rfl⟩
    go_wp2_with fail
    go_ret
    exact ⟨rfl, hb⟩
  | true =>
    have hn := many_yes hm
    have HM := Lib.hid hm
    cases hnm : namB l with
    | false =>
      have H : -1 = v := by rw [← h, hubI, hm, hnm]; rfl
      subst H
      have HN := Lib.hid hnm
      clear h hm hnm
      go_enter Tryd.func18, Tryd.ntmps18
      go_wp2_with fail
      refine (isMany_eq n true _ HM.out).mono ?_
      rintro e w1 ⟨rfl, rfl⟩
      go_wp2_with fail
      refine (tpName_eq l false _ (by omega) HN.out).mono ?_
      rintro e w1 ⟨rfl, hb1⟩
      replace hb := below_more hb hb1
      clear hb1
      go_wp2_with fail
      go_ret
      exact ⟨rfl, hb⟩
    | true =>
      have H : Hid (pickI (headL l) n = v) := by show _ = _; rw [← h, hubI, hm, hnm]; rfl
      have HF := Lib.hid (firL_yes l (nam_fil l hnm) (nam_wil l hnm))
      have HN := Lib.hid hnm
      have hhl := head_len l
      clear h hm hnm
      obtain ⟨x, hx⟩ : ∃ x, headL l = x := ⟨_, rfl⟩
      rw [hx] at H HF hhl
      clear hx
      go_enter Tryd.func18, Tryd.ntmps18
      go_wp2_with fail
      refine (isMany_eq n true _ HM.out).mono ?_
      rintro e w1 ⟨rfl, rfl⟩
      go_wp2_with fail
      refine (tpName_eq l true _ (by omega) HN.out).mono ?_
      rintro e w1 ⟨rfl, hb1⟩
      replace hb := below_more hb hb1
      clear hb1
      go_wp2_with fail
      refine (tpFirst_eq l x true _ (HG.out.below hb) (by omega) HF.out).mono ?_
      rintro e w1 ⟨rfl, hb1⟩
      replace hb := below_more hb hb1
      clear hb1
      go_wp2_with fail
      refine (pick_eq x n v _ (by omega) (by omega) (by omega) H.out).mono ?_
      rintro e w1 ⟨rfl, hb1⟩
      replace hb := below_more hb hb1
      clear hb1
      go_wp2_with fail
      go_ret
      exact ⟨rfl, hb⟩
end Go.Proofs.YtiiojdlmbfkkhaaDoor
