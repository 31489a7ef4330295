/-
  shard: the document's own answers.
-/
import Derived.Test.YtiiojdlmbfkkhaaDoorShHubs
import Derived.Test.YtiiojdlmbfkkhaaDoorTpRef2
set_option linter.unusedSimpArgs false
set_option linter.unusedVariables false
namespace Go.Proofs.YtiiojdlmbfkkhaaDoor
open Go.RowKit

theorem few_eq (n : Int) (b : Bool) (w : World) (h : manyB n = b) :
    Calls Tryd.prog 31 #[.int .i64 n] w fun e w' => e = .returned (.bool b) ∧ w = w' := by
  cases b with
  | true =>
    have h1 := many_yes h
    have h2 := h1.1
    have h3 := h1.2
    clear h h1
    go_enter Tryd.func31, Tryd.ntmps31
    go_wp2_with fail
    go_ret
    exact ⟨rfl, rfl⟩
  | false =>
    rcases many_no h with h1 | h1
    · have h2 : ¬ 1 ≤ n := by omega
      clear h h1
      go_enter Tryd.func31, Tryd.ntmps31
      go_wp2_with fail
      go_ret
      exact ⟨rfl, rfl⟩
    · have h2 : 1 ≤ n := by omega
      have h3 : ¬ n ≤ 64 := by omega
      clear h h1
      go_enter Tryd.func31, Tryd.ntmps31
      go_wp2_with fail
      go_ret
      exact ⟨rfl, rfl⟩
theorem wrap_quo (x P : Nat) (hx : x < 256) : IntKind.u64.wrap ((x : Int) / (P : Int)) = ((x / P : Nat) : Int) := by
  have h1 : x / P ≤ x := Nat.div_le_self x P
  rw [IntKind.wrap_u64, show ((x : Int) / (P : Int)) = ((x / P : Nat) : Int) from (Int.natCast_ediv x P).symm]
  generalize x / P = d at h1 ⊢
  omega
/-- One bit: what the document's loop asks of it. -/
theorem bit_ask (x y k : Nat) (P : Nat) (hP : P = 2 ^ k) (hx : x < 256) (hy : y < 256) : ((IntKind.u64.wrap ((x : Int) / (P : Int))).tmod 2 != (IntKind.u64.wrap ((y : Int) / (P : Int))).tmod 2) = !(x / 2 ^ k % 2 == y / 2 ^ k % 2) := by
  rw [wrap_quo x P hx, wrap_quo y P hy, hP]
  generalize x / 2 ^ k = d
  generalize y / 2 ^ k = e
  rw [Int.tmod_eq_emod_of_nonneg (by omega), Int.tmod_eq_emod_of_nonneg (by omega), bne]
  congr 1
  rw [Bool.eq_iff_iff, beq_iff_eq, beq_iff_eq]
  omega
set_option maxHeartbeats 1000000 in
theorem refHash_eq (l : List UInt8) (h : Nat) (w : World) (hl : l.length ≤ 1000000000) (hh : hsh l = h) :
    Calls Tryd.prog 12 #[.string ⟨l.toArray⟩] w fun e w' => e = .returned (.int .u64 (h : Int)) ∧ Below w.heap.size w w' := by
  have H := Lib.hid hh
  clear hh
  go_enter Tryd.func12, Tryd.ntmps12
  go_wp2_with fail
  go_loopw [3, 4, 5, 6, 7, 8] (fun s i _ _ _ _ wr => ∃ (j q : Nat), i = .int .i64 j ∧ s = .int .u64 (q : Int) ∧ j ≤ l.length ∧ q < 18446744073709551616 ∧ Below w.heap.size w wr ∧ Hid (hsh (l.take j) = q)) (fun _ i _ _ _ _ _ => l.length - (intOf i).toNat)
  case atStart => exact ⟨0, 14695981039346656037, rfl, rfl, by omega, by omega, Below.refl _ _, by show _ = _; rw [List.take_zero]; exact hsh_nil⟩
  case round =>
    obtain ⟨j, q, rfl, rfl, hj, hq, hb, hc⟩ := hrel
    by_cases hlt : j < l.length
    · obtain ⟨c, hcc⟩ : ∃ c, l[j] = c := ⟨_, rfl⟩
      have hy : ∀ h' : j < (ByteArray.mk l.toArray).size, (ByteArray.mk l.toArray)[j]'h' = c := fun h' => hcc
      have HN := Lib.hid (hsh_take l j c (by rw [List.getElem?_eq_getElem hlt, hcc]))
      have hc256 : c.toNat < 256 := c.toNat_lt
      have hcw : IntKind.u64.wrap (c.toNat : Int) = (c.toNat : Int) := by rw [IntKind.wrap_u64]; omega
      obtain ⟨lo, hlo⟩ : ∃ lo, q % 256 = lo := ⟨_, rfl⟩
      obtain ⟨hi, hhi⟩ : ∃ hi, q - q % 256 = hi := ⟨_, rfl⟩
      have hlt1 : (q : Int).tmod 256 = (lo : Int) := by rw [Int.tmod_eq_emod_of_nonneg (by omega)]; omega
      have hhi1 : IntKind.u64.wrap ((q : Int) - (lo : Int)) = (hi : Int) := by rw [IntKind.wrap_u64]; omega
      have HE : Hid (hi + xrb lo c.toNat 8 = q ^^^ c.toNat) := by show _ = _; rw [← hhi, ← hlo]; exact xrb_end q c
      have hlo2 : lo < 256 := by omega
      have hhib : hi + 256 ≤ 18446744073709551616 := by omega
      clear hcc hlo hhi
      obtain ⟨wm, hwm⟩ : ∃ wm, wm = wr := ⟨_, rfl⟩
      rw [← hwm] at hb ⊢
      clear hwm wr
      go_wp2_with fail
      go_loopw [3, 7, 8] (fun s b k wr => ∃ (m p P : Nat), k = .int .i64 m ∧ s = .int .u64 (p : Int) ∧ b = .int .u64 (P : Int) ∧ m ≤ 8 ∧ P ≤ 256 ∧ 0 < P ∧ p ≤ hi + 255 ∧ Below w.heap.size w wr ∧ Hid (P = 2 ^ m) ∧ Hid (p = hi + xrb lo c.toNat m)) (fun _ _ k _ => 8 - (intOf k).toNat)
      case atStart => exact ⟨0, hi, 1, rfl, rfl, rfl, by omega, by omega, by omega, by omega, hb, rfl, by show _ = _; rw [xrb_zero]; rfl⟩
      case round =>
        obtain ⟨m, p, P, rfl, rfl, rfl, hm, hP, hP0, hp, hb, hPm, hpx⟩ := hrel
        by_cases hml : m < 8
        · have z1 : ((P : Int) == 0) = false := by simp; omega
          have z2 : ¬ (P : Int) = 0 := by omega
          have d1 : (lo : Int).tdiv (P : Int) = (lo : Int) / (P : Int) := Int.tdiv_eq_ediv_of_nonneg (by omega)
          have d2 : (c.toNat : Int).tdiv (P : Int) = (c.toNat : Int) / (P : Int) := Int.tdiv_eq_ediv_of_nonneg (by omega)
          have e1 := bit_ask lo c.toNat m P hPm.out hlo2 hc256
          obtain ⟨t, ht⟩ : ∃ t, (lo / 2 ^ m % 2 == c.toNat / 2 ^ m % 2) = t := ⟨_, rfl⟩
          rw [ht] at e1
          have hP2 : Hid (2 * P = 2 ^ (m + 1)) := by show _ = _; rw [hPm.out, Nat.pow_succ, Nat.mul_comm]
          have hPb : 2 * P ≤ 256 := by
            rw [hP2.out]
            exact Nat.pow_le_pow_right (by decide) (show m + 1 ≤ 8 by omega)
          have hb9 : ∀ N, Below w.heap.size w (wr.drewN N) := fun N => below_drewN hb N
          cases t with
          | true =>
            have HX : Hid (p = hi + xrb lo c.toNat (m + 1)) := by show _ = _; rw [hpx.out, xrb_eq _ _ _ ht]
            clear ht
            go_wp2_with fail
            go_quiet (fail)
            go_wp2_with fail
            go_roundw
            case rel => exact ⟨m + 1, p, 2 * P, by go_num, rfl, by go_num, by omega, hPb, by omega, hp, hb9 _, hP2, HX⟩
            case measure => simp [intOf]; omega
          | false =>
            have hx9 : p + P = hi + xrb lo c.toNat (m + 1) := by rw [hpx.out, xrb_ne _ _ _ ht, hPm.out]; omega
            have hx8 := xrb_lt lo c.toNat (m + 1)
            rw [← hP2.out] at hx8
            have HX : Hid (p + P = hi + xrb lo c.toNat (m + 1)) := hx9
            clear ht hx9
            have hpP : p + P ≤ hi + 255 := by have := HX.out; omega
            have hw9 : IntKind.u64.wrap ((p : Int) + (P : Int)) = ((p + P : Nat) : Int) := by rw [IntKind.wrap_u64]; omega
            clear hx8
            go_wp2_with fail
            go_quiet (fail)
            go_wp2_with fail
            go_roundw
            case rel => exact ⟨m + 1, p + P, 2 * P, by go_num, by rfl, by go_num, by omega, hPb, by omega, hpP, hb9 _, hP2, HX⟩
            case measure => simp [intOf]; omega
        · obtain rfl : m = 8 := by omega
          have HS : Hid (hsh (l.take (j + 1)) = stp q c) := by show _ = _; rw [HN.out, hc.out]
          have hsv := stp_int q c hq
          have hpv : p = q ^^^ c.toNat := by rw [hpx.out]; exact HE.out
          have hx64 := xor_lt q c hq
          have hmul : Hid (Value.int .u64 (IntKind.u64.wrap ((p : Int) * 1099511628211)) = Value.int .u64 ((stp q c : Nat) : Int)) := by
            show _ = _
            rw [IntKind.wrap_u64, hpv]
            unfold stp
            generalize q ^^^ c.toNat = x
            exact congrArg (Value.int .u64) (by omega)
          clear hsv hpv hx64 hPm hpx
          go_wp2_with fail
          go_roundw
          case rel => exact ⟨j + 1, stp q c, by go_num, hmul.out, by omega, stp_lt _ _, hb, HS⟩
          case measure => simp [intOf]; omega
    · have HN2 : Hid (q = h) := by show _ = _; rw [← H.out, ← hc.out, List.take_of_length_le (by omega)]
      go_wp2_with fail
      go_ret
      exact ⟨by rw [HN2.out]; rfl, hb⟩
theorem refHome_eq (l : List UInt8) (n v : Int) (w : World) (hl : l.length ≤ 1000000000) (h : homI l n = v) :
    Calls Tryd.prog 15 #[.string ⟨l.toArray⟩, .int .i64 n] w fun e w' => e = .returned (.int .i64 v) ∧ Below w.heap.size w w' := by
  have hb : Below w.heap.size w w := Below.refl _ _
  cases hm : manyB n with
  | false =>
    have H : -1 = v := by rw [← h, homI, hm]; rfl
    subst H
    have HM := Lib.hid hm
    clear h hm
    go_enter Tryd.func15, Tryd.ntmps15
    go_wp2_with fail
    refine (few_eq n false _ HM.out).mono ?_
    rintro e w1 ⟨rfl, rfl⟩
    go_wp2_with fail
    go_ret
    exact ⟨rfl, hb⟩
  | true =>
    have hn := many_yes hm
    have hv := pickI_bd l n hn.1
    obtain ⟨q, hq⟩ : ∃ q, hsh l = q := ⟨_, rfl⟩
    have hqv : (q : Int) % n = v := by rw [← h, homI, hm, ← hq]; rfl
    rw [pickI, hq, hqv] at hv
    have hnw : IntKind.u64.wrap n = n := by rw [IntKind.wrap_u64]; omega
    have htm : (q : Int).tmod n = v := by rw [Int.tmod_eq_emod_of_nonneg (by omega)]; exact hqv
    have HQ := Lib.hid hq
    have HM := Lib.hid hm
    clear h hm hq hqv
    go_enter Tryd.func15, Tryd.ntmps15
    go_wp2_with fail
    refine (few_eq n true _ HM.out).mono ?_
    rintro e w1 ⟨rfl, rfl⟩
    go_wp2_with fail
    refine (refHash_eq l q _ hl HQ.out).mono ?_
    rintro e w1 ⟨rfl, hb1⟩
    replace hb := below_more hb hb1
    clear hb1
    go_wp2_with fail
    go_ret
    exact ⟨rfl, hb⟩
theorem refGate_eq (c n v : Int) (w : World) (hc : c ≤ 9223372036854775807) (h : gatI c n = v) :
    Calls Tryd.prog 17 #[.int .i64 c, .int .i64 n] w fun e w' => e = .returned (.int .i64 v) ∧ w = w' := by
  cases hm : manyB n with
  | false =>
    have H : -1 = v := by rw [← h, gatI, hm]; rfl
    subst H
    have HM := Lib.hid hm
    clear h hm
    go_enter Tryd.func17, Tryd.ntmps17
    go_wp2_with fail
    refine (few_eq n false _ HM.out).mono ?_
    rintro e w1 ⟨rfl, rfl⟩
    go_wp2_with fail
    go_ret
    exact ⟨rfl, rfl⟩
  | true =>
    have hn := many_yes hm
    have HM := Lib.hid hm
    by_cases h1 : 1 ≤ c
    · have hv : (c - 1) % n = v := by rw [← h, gatI, hm, decide_eq_true h1]; rfl
      have htm : (c - 1).tmod n = v := by rw [Int.tmod_eq_emod_of_nonneg (by omega)]; exact hv
      have i1 : ¬ c < 1 := by omega
      clear h hm hv
      go_enter Tryd.func17, Tryd.ntmps17
      go_wp2_with fail
      refine (few_eq n true _ HM.out).mono ?_
      rintro e w1 ⟨rfl, rfl⟩
      go_wp2_with fail
      go_ret
      exact ⟨rfl, rfl⟩
    · have H : -1 = v := by rw [← h, gatI, hm, decide_eq_false h1]; rfl
      subst H
      have i1 : c < 1 := by omega
      clear h hm h1
      go_enter Tryd.func17, Tryd.ntmps17
      go_wp2_with fail
      refine (few_eq n true _ HM.out).mono ?_
      rintro e w1 ⟨rfl, rfl⟩
      go_wp2_with fail
      go_ret
      exact ⟨rfl, rfl⟩
theorem refHub_eq (l : List UInt8) (n v : Int) (w : World) (hl : l.length ≤ 1000000) (h : hubI l n = v) :
    Calls Tryd.prog 19 #[.string ⟨l.toArray⟩, .int .i64 n] w fun e w' => e = .returned (.int .i64 v) ∧ Below w.heap.size w w' := by
  have hb : Below w.heap.size w w := Below.refl _ _
  cases hm : manyB n with
  | false =>
    have H : -1 = v := by rw [← h, hubI, hm]; rfl
    subst H
    have HM := Lib.hid hm
    clear h hm
    go_enter Tryd.func19, Tryd.ntmps19
    go_wp2_with fail
    refine (few_eq n false _ HM.out).mono ?_
    rintro e w1 ⟨rfl, rfl⟩
    go_wp2_with fail
    go_ret
    exact ⟨rfl, hb⟩
  | true =>
    have hn := many_yes hm
    have HM := Lib.hid hm
    cases hnm : namB l with
    | false =>
      have H : -1 = v := by rw [← h, hubI, hm, hnm]; rfl
      subst H
      have HN := Lib.hid hnm
      clear h hm hnm
      go_enter Tryd.func19, Tryd.ntmps19
      go_wp2_with fail
      refine (few_eq n true _ HM.out).mono ?_
      rintro e w1 ⟨rfl, rfl⟩
      go_wp2_with fail
      refine (refName_eq l false _ (by omega) HN.out).mono ?_
      rintro e w1 ⟨rfl, hb1⟩
      replace hb := below_more hb hb1
      clear hb1
      go_wp2_with fail
      go_ret
      exact ⟨rfl, hb⟩
    | true =>
      have HN := Lib.hid hnm
      have hhl := head_len l
      obtain ⟨x, hx⟩ : ∃ x, headL l = x := ⟨_, rfl⟩
      have hv := pickI_bd x n hn.1
      obtain ⟨q, hq⟩ : ∃ q, hsh x = q := ⟨_, rfl⟩
      have hqv : (q : Int) % n = v := by rw [← h, hubI, hm, hnm, hx, ← hq]; rfl
      rw [pickI, hq, hqv] at hv
      have hnw : IntKind.u64.wrap n = n := by rw [IntKind.wrap_u64]; omega
      have htm : (q : Int).tmod n = v := by rw [Int.tmod_eq_emod_of_nonneg (by omega)]; exact hqv
      have HQ := Lib.hid hq
      obtain ⟨L, hL⟩ : ∃ L, levs l = L := ⟨_, rfl⟩
      have HX0 : Hid (L[0]? = some x) := by
        show _ = _
        rw [← hx, ← hL]
        have := levs_cons l
        rw [this]; rfl
      have hpos : 0 < L.length := by rw [← hL]; exact levs_pos l
      have HL := Lib.hid hL
      rw [hx] at hhl
      clear h hm hnm hq hqv hL hx
      go_enter Tryd.func19, Tryd.ntmps19
      go_wp2_with fail
      refine (few_eq n true _ HM.out).mono ?_
      rintro e w1 ⟨rfl, rfl⟩
      go_wp2_with fail
      refine (refName_eq l true _ (by omega) HN.out).mono ?_
      rintro e w1 ⟨rfl, hb1⟩
      replace hb := below_more hb hb1
      clear hb1
      go_wp2_with fail
      refine (refLevels_eq l L _ (by omega) HL.out).mono ?_
      rintro e w2 ⟨g, c, rfl, _, hs, hb2⟩
      replace hb := below_more hb hb2
      clear hb2
      obtain ⟨x', hx', hcell⟩ := hs.at0 (k := 0) hpos
      rw [HX0.out] at hx'
      obtain rfl := Option.some.inj hx'
      clear hx' hs
      go_wp2_with fail
      refine (refHash_eq x q _ (by omega) HQ.out).mono ?_
      rintro e w1 ⟨rfl, hb1⟩
      replace hb := below_more hb hb1
      clear hb1
      go_wp2_with fail
      go_ret
      exact ⟨rfl, hb⟩
end Go.Proofs.YtiiojdlmbfkkhaaDoor
