/-
  read: First, cut.
-/
import Derived.Test.YtncgkkhpcgdcaaaDoorRdKit
set_option linter.unusedSimpArgs false
set_option linter.unusedVariables false
namespace Go.Proofs.YtncgkkhpcgdcaaaDoor
open Go.RowKit
set_option maxRecDepth 100000
theorem qosIn_any (a u : Int) (w : World) (h0 : 0 ≤ a) (h1 : a ≤ 255) (hu : u = 2 ∨ u = 8) :
    Calls Tryd.prog 40 #[.int .u8 a, .int .u8 u] w fun e w' => e = .returned (.int .u8 (a / u % 4)) ∧ w' = w := by
  have e1 : a.tdiv u = a / u := by rw [Int.tdiv_eq_ediv_of_nonneg h0]
  have hq : 0 ≤ a / u ∧ a / u ≤ 255 := by rcases hu with rfl | rfl <;> omega
  have e2 : (a / u).tmod 4 = a / u % 4 := by rw [Int.tmod_eq_emod_of_nonneg hq.1]
  have hu0 : u ≠ 0 := by omega
  have hw : IntKind.u8.wrap (a / u) = a / u := IntWalk.u8_in _ (by omega)
  have hw2 : IntKind.u8.wrap (a / u % 4) = a / u % 4 := IntWalk.u8_in _ (by omega)
  clear h0 h1
  rcases hu with rfl | rfl
  all_goals
    go_enter Tryd.func40, Tryd.ntmps40
    go_wp2_with fail
    go_ret
    exact ⟨rfl, rfl⟩
theorem first_any (c : Int) (w : World) (h0 : 0 ≤ c) (h1 : c ≤ 255) :
    Calls Tryd.prog 27 #[.int .u8 c] w fun e w' => e = .returned (.bool (firB c)) ∧ w' = w := by
  have e1 : c.tdiv 16 = c / 16 := by rw [Int.tdiv_eq_ediv_of_nonneg h0]
  have e2 : c.tmod 16 = c % 16 := by rw [Int.tmod_eq_emod_of_nonneg h0]
  have hw1 : IntKind.u8.wrap (c / 16) = c / 16 := IntWalk.u8_in _ (by omega)
  have hw2 : IntKind.u8.wrap (c % 16) = c % 16 := IntWalk.u8_in _ (by omega)
  have hk : 0 ≤ c / 16 ∧ c / 16 ≤ 15 := by omega
  have hm : 0 ≤ c % 16 ∧ c % 16 ≤ 15 := by omega
  unfold firB
  obtain ⟨k, hk1⟩ : ∃ k, k = c / 16 := ⟨_, rfl⟩
  obtain ⟨m, hm1⟩ : ∃ m, m = c % 16 := ⟨_, rfl⟩
  rw [← hk1] at e1 hw1 hk ⊢
  rw [← hm1] at e2 hw2 hm ⊢
  clear hk1 hm1
  by_cases h3 : k = 3
  · subst h3
    go_enter Tryd.func27, Tryd.ntmps27
    go_wp2_with fail
    refine (qosIn_any m 2 _ hm.1 (by omega) (Or.inl rfl)).mono ?_
    rintro e w1 ⟨rfl, rfl⟩
    go_wp2_with fail
    go_ret
    exact ⟨by simp, rfl⟩
  · have t3 : (k == 3) = false := by simpa using h3
    by_cases h6 : k = 6 ∨ k = 8 ∨ k = 10
    · have HR : Hid ((if k = 3 then decide (m / 2 % 4 ≤ 2) else if k = 6 ∨ k = 8 ∨ k = 10 then m == 2 else (decide (1 ≤ k) && decide (k ≤ 14)) && m == 0) = (m == 2)) := by show _ = _; rw [if_neg h3, if_pos h6]
      rw [HR.out]
      clear HR h3
      rcases h6 with rfl | rfl | rfl
      all_goals
        go_enter Tryd.func27, Tryd.ntmps27
        go_wp2_with fail
        go_ret
        exact ⟨rfl, rfl⟩
    · have HR : Hid ((if k = 3 then decide (m / 2 % 4 ≤ 2) else if k = 6 ∨ k = 8 ∨ k = 10 then m == 2 else (decide (1 ≤ k) && decide (k ≤ 14)) && m == 0) = ((decide (1 ≤ k) && decide (k ≤ 14)) && m == 0)) := by show _ = _; rw [if_neg h3, if_neg h6]
      rw [HR.out]
      have t6 : (k == 6) = false := by simp; omega
      have t8 : (k == 8) = false := by simp; omega
      have t10 : (k == 10) = false := by simp; omega
      clear HR h3 h6
      cases g1 : decide (1 ≤ k) with
      | false =>
        go_enter Tryd.func27, Tryd.ntmps27
        go_wp2_with fail
        go_ret
        exact ⟨rfl, rfl⟩
      | true =>
        cases g2 : decide (k ≤ 14) with
        | false =>
          go_enter Tryd.func27, Tryd.ntmps27
          go_wp2_with fail
          go_ret
          exact ⟨rfl, rfl⟩
        | true =>
          go_enter Tryd.func27, Tryd.ntmps27
          go_wp2_with fail
          go_ret
          exact ⟨rfl, rfl⟩
theorem first_eq (c : Int) (r : Bool) (w : World) (h0 : 0 ≤ c) (h1 : c ≤ 255) (h : firB c = r) :
    Calls Tryd.prog 27 #[.int .u8 c] w fun e w' => e = .returned (.bool r) ∧ w' = w := h ▸ first_any c w h0 h1
theorem rdR_range (r : List UInt8) (h : (rdR r).2.2 = 0) : 0 ≤ (rdR r).1 ∧ (rdR r).1 ≤ 268435455 ∧ 1 ≤ (rdR r).2.1 ∧ (rdR r).2.1 ≤ r.length := by
  obtain ⟨j, hj, hc, hjl, hn0, hn1, ht⟩ := rdR_ok r (rdR r).1 (rdR r).2.1 (by rw [← h])
  have hp : (128 : Int) ^ (j + 1) ≤ 268435456 := by
    have : j = 0 ∨ j = 1 ∨ j = 2 ∨ j = 3 := by omega
    rcases this with rfl | rfl | rfl | rfl <;> decide
  omega
theorem readLen_eq (l : List UInt8) (n u e : Int) (w : World) (hl : l.length ≤ 9223372036854775807) (h : rdR l = (n, u, e)) :
    Calls Tryd.prog 28 #[.string ⟨l.toArray⟩] w fun e' w' => e' = .returned (.tuple #[.int .i64 n, .int .i64 u, .int .i64 e]) ∧ w = w' := by
  have := numReadLen_any l w hl
  rw [h] at this
  exact this
set_option maxHeartbeats 1000000 in
theorem cut_any (s : List UInt8) (w : World) (hl : s.length ≤ 1000000000) :
    Calls Tryd.prog 29 #[.string ⟨s.toArray⟩] w fun e w' => e = .returned (.tuple #[.string ⟨(cutR s).1.toArray⟩, .int .i64 (cutR s).2.1, .int .i64 (cutR s).2.2]) ∧ w' = w := by
  rcases s with _ | ⟨b, r⟩
  · go_enter Tryd.func29, Tryd.ntmps29
    go_wp2_with fail
    go_ret3
    exact ⟨rfl, rfl⟩
  · have hb := b.toNat_lt
    have HC := Lib.hid (cut_cons b r)
    obtain ⟨S, hS⟩ : ∃ S, S = b :: r := ⟨_, rfl⟩
    rw [← hS] at hl HC ⊢
    have hS0 : (S == []) = false := by rw [hS]; rfl
    have hlen : S.length = r.length + 1 := by rw [hS]; rfl
    have h1l : 1 ≤ S.length := by omega
    have HA : ∀ h0 : 0 < (ByteArray.mk S.toArray).size, (ByteArray.mk S.toArray)[0]'h0 = b := by intro h0; subst hS; rfl
    have HT : Hid (S.tail = r) := by show _ = _; rw [hS]; rfl
    have HS := Lib.hid hS
    clear hS
    cases hf : firB b.toNat with
    | false =>
      have HF := Lib.hid hf
      have HR : Hid (cutR S = ([], 0, 4)) := by show _ = _; rw [HC.out, hf]; rfl
      rw [HR.out]
      clear hf HR hlen
      go_enter Tryd.func29, Tryd.ntmps29
      go_wp2_with fail
      refine (first_eq b.toNat false _ (by omega) (by omega) HF.out).mono ?_
      rintro e w1 ⟨rfl, rfl⟩
      go_wp2_with fail
      go_ret3
      exact ⟨rfl, rfl⟩
    | true =>
      have HF := Lib.hid hf
      have hrg := Lib.hid (rdR_range r)
      obtain ⟨n, hn⟩ : ∃ n, n = (rdR r).1 := ⟨_, rfl⟩
      obtain ⟨u, hu⟩ : ∃ u, u = (rdR r).2.1 := ⟨_, rfl⟩
      obtain ⟨er, he⟩ : ∃ er, er = (rdR r).2.2 := ⟨_, rfl⟩
      have HD : Hid (rdR r = (n, u, er)) := by show _ = _; rw [hn, hu, he]
      rw [hf, if_pos rfl, HD.out] at HC
      rw [HD.out] at hrg
      clear hn hu he hf
      by_cases he0 : er = 0
      · subst he0
        obtain ⟨hn0, hn1, hu0, hu1⟩ := hrg.out rfl
        clear hrg
        dsimp only at hn0 hn1 hu0 hu1
        have hu2 : u ≤ (S.length : Int) := by omega
        by_cases hlt : (r.length : Int) - u < n
        · have HR : Hid (cutR S = ([], 0, 2)) := by show _ = _; rw [HC.out, if_pos rfl, if_pos hlt]
          rw [HR.out]
          have hd : decide ((S.length : Int) - (1 + u) < n) = true := by simp; omega
          clear HC HR hlen hlt
          go_enter Tryd.func29, Tryd.ntmps29
          go_wp2_with fail
          refine (first_eq b.toNat true _ (by omega) (by omega) HF.out).mono ?_
          rintro e w1 ⟨rfl, rfl⟩
          go_wp2_with fail
          refine (readLen_eq S.tail n u 0 _ (by simp; omega) (by rw [HT.out, HD.out])).mono ?_
          rintro e w1 ⟨rfl, rfl⟩
          go_wp2_with fail
          go_ret3
          exact ⟨rfl, rfl⟩
        · have HR : Hid (cutR S = ((r.drop u.toNat).take n.toNat, 1 + u + n, 0)) := by show _ = _; rw [HC.out, if_pos rfl, if_neg hlt]
          rw [HR.out]
          have hd : decide ((S.length : Int) - (1 + u) < n) = false := by simp; omega
          obtain ⟨u', rfl⟩ : ∃ u' : Nat, u = u' := ⟨u.toNat, by omega⟩
          obtain ⟨n', rfl⟩ : ∃ n' : Nat, n = n' := ⟨n.toNat, by omega⟩
          have HX : Hid ((S.take (1 + u' + n')).drop (1 + u') = (r.drop ((u' : Int)).toNat).take ((n' : Int)).toNat) := by
            show _ = _
            rw [Int.toNat_natCast, Int.toNat_natCast, ← HT.out, ← List.drop_one, List.drop_drop, List.drop_take]
            congr 1
            omega
          have hle : 1 + u' + n' ≤ S.length := by omega
          clear HC HR hlen hlt
          go_enter Tryd.func29, Tryd.ntmps29
          go_wp2_with fail
          refine (first_eq b.toNat true _ (by omega) (by omega) HF.out).mono ?_
          rintro e w1 ⟨rfl, rfl⟩
          go_wp2_with fail
          refine (readLen_eq S.tail n' u' 0 _ (by simp; omega) (by rw [HT.out, HD.out])).mono ?_
          rintro e w1 ⟨rfl, rfl⟩
          go_wp2_with fail
          go_ret3
          exact ⟨by rw [← HX.out]; rfl, rfl⟩
      · have hb0 : (er != 0) = true := by simpa using he0
        have HR : Hid (cutR S = ([], 0, er)) := by show _ = _; rw [HC.out, if_neg he0]
        rw [HR.out]
        clear HC HR hrg hlen
        go_enter Tryd.func29, Tryd.ntmps29
        go_wp2_with fail
        refine (first_eq b.toNat true _ (by omega) (by omega) HF.out).mono ?_
        rintro e w1 ⟨rfl, rfl⟩
        go_wp2_with fail
        refine (readLen_eq S.tail n u er _ (by simp; omega) (by rw [HT.out, HD.out])).mono ?_
        rintro e w1 ⟨rfl, rfl⟩
        go_wp2_with fail
        go_ret3
        exact ⟨rfl, rfl⟩
end Go.Proofs.YtncgkkhpcgdcaaaDoor
