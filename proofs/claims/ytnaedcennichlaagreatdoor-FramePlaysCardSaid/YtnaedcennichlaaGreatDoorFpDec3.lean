/-
  The document's own Decode: all of it.
-/
import Derived.Test.YtnaedcennichlaaGreatDoorFpDec2
set_option linter.unusedSimpArgs false
set_option linter.unusedVariables false
namespace Go.Proofs.YtnaedcennichlaaGreatDoor
open Go.RowKit
set_option maxRecDepth 100000
theorem name_field5 : fieldL nameL = nm6 := by decide
theorem name_val5 : valB nameL = true := by decide +kernel
theorem gt_name (l : List UInt8) : gtV (getR l) = nameL ↔ 6 ≤ l.length ∧ l.take 6 = nm6 := by
  constructor
  · intro h
    cases hf : gtF false (getR l) with
    | false =>
      obtain ⟨_, h1, _⟩ := tx_ok hf
      rw [h, name_field5] at h1
      rw [h1]
      exact ⟨by simp [nm6], by rw [List.take_left' (by rfl)]⟩
    | true =>
      exfalso
      unfold gtF at hf
      unfold gtV at h
      split at hf
      · cases hf
      · rename_i h0
        rw [if_neg h0] at h
        cases h
  · rintro ⟨h1, h2⟩
    have h3 : l = fieldL nameL ++ l.drop 6 := by rw [name_field5, ← h2, List.take_append_drop]
    rw [h3]
    exact (tx_field nameL _ false name_val5).1
theorem gt_drop (l : List UInt8) (h : gtV (getR l) = nameL) : gtL l (getR l) = l.drop 6 := by
  obtain ⟨h1, h2⟩ := (gt_name l).1 h
  have h3 : l = fieldL nameL ++ l.drop 6 := by rw [name_field5, ← h2, List.take_append_drop]
  have := (tx_field nameL (l.drop 6) false name_val5).2.1
  rw [← h3] at this
  exact this
theorem oth5_no (b : UInt8) (X : List UInt8) (hf : firB b.toNat = true) (h : (othR b.toNat X).2 = false) : ∃ x, T16A b X x ∨ T16B b X x ∨ T16C b X x ∨ T16D b X x := by
  by_cases h16 : b.toNat = 16
  · have e : ((b.toNat : Int) == 16) = true := by simp; omega
    by_cases h6 : 6 < X.length
    · have i6 : (6 : Int) < (X.length : Int) := by omega
      refine ⟨X[6], ?_⟩
      by_cases ht : X.take 6 = nm6
      · have hn := (gt_name X).2 ⟨by omega, ht⟩
        unfold othR at h
        rw [if_pos (by rw [h16]; rfl), if_pos hn, gt_drop X hn] at h
        have hd : X.drop 6 = X[6] :: X.drop 7 := drop_at X 6 h6
        rw [hd] at h
        right; right; right
        refine ⟨e, i6, by simpa [nm6] using ht, fun h' => rfl, ?_⟩
        have hb : byV (X[6] :: X.drop 7) = (X[6].toNat : Int) := rfl
        rw [hb] at h
        have hy : byF (X[6] :: X.drop 7) false = false := rfl
        rw [hy, Bool.false_or] at h
        split at h
        · assumption
        · cases h
      · right; right; left
        exact ⟨e, i6, by simpa [nm6] using ht, trivial, trivial⟩
    · exact ⟨0, Or.inr (Or.inl ⟨e, by omega, trivial, trivial, trivial⟩)⟩
  · exact ⟨0, Or.inl ⟨by simp; omega, trivial, trivial, trivial, trivial⟩⟩
theorem oth5_yes (b : UInt8) (X : List UInt8) (hf : firB b.toNat = true) (h : (othR b.toNat X).2 = true) : ∃ x : UInt8, ((b.toNat : Int) == 16) = true ∧ (6 : Int) < (X.length : Int) ∧ (X.take 6 == [0, 4, 77, 81, 84, 84]) = true ∧ (∀ h' : 6 < (ByteArray.mk X.toArray).size, (ByteArray.mk X.toArray)[6]'h' = x) ∧ ((x.toNat : Int) == 4) = false ∧ (othR b.toNat X).1 = x.toNat := by
  unfold othR at h ⊢
  split at h
  · rename_i h1
    have hc := (fir_ty hf).2 (by omega)
    rw [h1] at hc
    have h16 : b.toNat = 16 := by
      have : (b.toNat : Int) % 16 = 0 := by rw [hc]; decide
      omega
    have e : ((b.toNat : Int) == 16) = true := by simp; omega
    split at h
    · rename_i hn
      rw [gt_drop X hn] at h ⊢
      obtain ⟨h6, ht⟩ := (gt_name X).1 hn
      split at h
      · cases h
      · rename_i hz
        rw [if_pos h1, if_pos hn, if_neg hz]
        simp only [Bool.or_eq_true, not_or] at hz
        have hl : 6 < X.length := by
          rcases Nat.lt_or_ge 6 X.length with h9 | h9
          · exact h9
          · exfalso
            apply hz.1
            rw [List.drop_eq_nil_of_le h9]; rfl
        have hd : X.drop 6 = X[6] :: X.drop 7 := drop_at X 6 hl
        rw [hd] at hz ⊢
        exact ⟨X[6], e, by omega, by simpa [nm6] using ht, fun h' => rfl, Bool.eq_false_iff.2 hz.2, rfl⟩
    · cases h
  · cases h
set_option maxHeartbeats 1000000 in
theorem refDecode_oth (b : UInt8) (r X : List UInt8) (m U : Nat) (w : World) (hf : firB b.toNat = true) (hl : r.length ≤ 40000) (hr : rdR r = ((m : Int), (U : Int), 0)) (hm : m ≤ 268435455) (hu : 1 ≤ U) (hs : U + m ≤ r.length)
    (hX : (r.drop U).take m = X) (x6 : UInt8) (hz1 : ((b.toNat : Int) == 16) = true) (hz2 : (6 : Int) < (X.length : Int)) (hz3 : (X.take 6 == [0, 4, 77, 81, 84, 84]) = true) (hz4 : ∀ h' : 6 < (ByteArray.mk X.toArray).size, (ByteArray.mk X.toArray)[6]'h' = x6) (hz5 : ((x6.toNat : Int) == 4) = false) :
    Calls Tryz.prog 22 #[.string ⟨(b :: r).toArray⟩] w fun e w' => GDC w ((zPk.s_ty 1).s_level x6.toNat) [] (1 + U + m) 0 e w' := by
  have hbb := b.toNat_lt
  obtain ⟨S, hS⟩ : ∃ S, S = b :: r := ⟨_, rfl⟩
  have hA : ∀ h0 : 0 < (ByteArray.mk S.toArray).size, (ByteArray.mk S.toArray)[0]'h0 = b := by intro h0; subst hS; rfl
  have hSb : (S == []) = false := by rw [hS]; rfl
  have h1l : 1 ≤ S.length := by rw [hS]; simp
  have hSl : S.length ≤ r.length + 1 := by rw [hS]; simp
  have hSm : r.length + 1 ≤ S.length := by rw [hS]; simp
  have hT : S.tail = r := by rw [hS]; rfl
  have h1i : (1 : Int) ≤ (S.length : Int) := by omega
  have hK0 := ((Kp.nil w).new (PkC zPk none 0 0) 36)
  obtain ⟨U1, hU1⟩ : ∃ U1 : Nat, U1 = U + 1 := ⟨_, rfl⟩
  obtain ⟨N, hN⟩ : ∃ N : Nat, N = U1 + m := ⟨_, rfl⟩
  have hUI : (1 : Int) + (U : Int) = (U1 : Int) := by omega
  have hNI : (U1 : Int) + (m : Int) = (N : Int) := by omega
  have hwU : IntKind.i64.wrap (U1 : Int) = (U1 : Int) := IntWalk.i64_in _ (by omega)
  have hwN : IntKind.i64.wrap (N : Int) = (N : Int) := IntWalk.i64_in _ (by omega)
  have hx6 := x6.toNat_lt
  have hpost : 1 + (U : Int) + (m : Int) = (N : Int) := by omega
  rw [hpost]
  clear hpost
  have hlt : ¬ (S.length : Int) < (N : Int) := by omega
  have hlt2 : ¬ S.length < N := by omega
  have k0 : (0 : Int) ≤ (U1 : Int) := by omega
  have k1 : (U1 : Int) ≤ (N : Int) := by omega
  have k2 : (N : Int) ≤ (S.length : Int) := by omega
  have k3 : U1 ≤ N := by omega
  have hXX : List.drop U1 (List.take N S) = X := by rw [← hX, hU1, hN, hS, hU1, List.drop_take, show U + 1 + m - (U + 1) = m by omega, List.drop_succ_cons]
  have hXl : X.length ≤ 40000 := by rw [← hX, List.length_take, List.length_drop]; omega
  have HR := Lib.hid hr
  have hwb : IntKind.i64.wrap (b.toNat : Int) = (b.toNat : Int) := IntWalk.i64_in _ (by omega)
  rw [← hS]
  clear hS hr hs hN hU1 hX
  go_enter Tryz.func22, Tryz.ntmps22
  go_wp2_with fail
  refine (refFirst5_eq b.toNat true _ (by omega) (by omega) hf).mono ?_
  rintro e w1 ⟨rfl, hb1⟩
  have hK1 := hK0.more hb1
  clear hK0 hb1
  go_wp2_with fail
  refine (refReadLen_eq r m U 0 _ (by omega) HR.out).mono ?_
  rintro e w2 ⟨rfl, hb2⟩
  have hK2 := hK1.more hb2
  clear hK1 hb2
  have a1r := hK2.row; have a1f := hK2.free; have a1c := hK2.cell; have a1l := hK2.lt; have a1z := hK2.froz
  go_wp2_with fail
  refine ret_pk3 2 3 4 w.heap.size ((zPk.s_ty 1).s_level x6.toNat) none 0 0 (.int .i64 N) (.int .i64 0) rfl rfl (by go_simp <;> rfl) rfl rfl rfl ?_
  exact gdc_no (hK2.set (by simp) _).below
theorem refDecode_any (s : List UInt8) (w : World) (hl : s.length ≤ 40000) (P : Pk) (X : List (List UInt8 × Int)) (N E : Int) (h : decR s = (P, X, N, E)) :
    Calls Tryz.prog 22 #[.string ⟨s.toArray⟩] w fun e w' => GDC w P X N E e w' := by
  cases s with
  | nil =>
    have h2 : decR [] = (zPk, [], 0, 2) := rfl
    rw [h2] at h
    cases h
    exact refDecode_nil w
  | cons b r =>
    rw [List.length_cons] at hl
    have hby : byV (b :: r) = (b.toNat : Int) := rfl
    cases hf : firB b.toNat with
    | false =>
      have h2 : decR (b :: r) = (zPk, [], 0, 4) := by simp [decR, cutR, hf]
      rw [h2] at h
      cases h
      exact refDecode_first b r w hf
    | true =>
      rcases rdR_bad r with ⟨n, u, hr⟩ | hr | hr
      · obtain ⟨j, hj, hc, hjl, hn0, hn1, ht⟩ := rdR_ok r n u hr
        obtain ⟨m, rfl⟩ : ∃ m : Nat, n = m := ⟨n.toNat, by omega⟩
        obtain ⟨U, rfl⟩ : ∃ m : Nat, u = m := ⟨u.toNat, by omega⟩
        have hU1 : 1 ≤ U := by omega
        have hUl : U ≤ r.length := by omega
        have hm : m ≤ 268435455 := by
          have h9 : (128 : Int) ^ (j + 1) ≤ 268435456 := by
            rcases (show j = 0 ∨ j = 1 ∨ j = 2 ∨ j = 3 by omega) with rfl | rfl | rfl | rfl <;> decide
          omega
        by_cases hs : r.length < U + m
        · have h2 : decR (b :: r) = (zPk, [], 0, 2) := by
            have : cutR (b :: r) = ([], 0, 2) := by
              simp only [cutR, hf, hr, if_true]
              rw [if_pos (by omega)]
            unfold decR
            rw [this, if_neg (by decide)]
          rw [h2] at h
          cases h
          exact refDecode_short b r m U w hf (by omega) hr hm hUl hs
        · obtain ⟨Z, hZ⟩ : ∃ Z, (r.drop U).take m = Z := ⟨_, rfl⟩
          have hZl : Z.length ≤ 40000 := by rw [← hZ, List.length_take, List.length_drop]; omega
          have hcut : cutR (b :: r) = (Z, 1 + (U : Int) + m, 0) := by
            simp only [cutR, hf, hr, if_true]
            rw [if_neg (by omega)]
            simp only [Int.toNat_natCast]
            rw [hZ]
          have hd : decR (b :: r) = if (othR b.toNat Z).2 then ((zPk.s_ty 1).s_level (othR b.toNat Z).1, [], 1 + (U : Int) + m, 0)
              else if (parR b.toNat Z).2.2 then ((parR b.toNat Z).1, (parR b.toNat Z).2.1, 1 + (U : Int) + m, 0) else (zPk, [], 0, 4) := by
            unfold decR
            rw [hcut, hby, if_pos rfl]
          rw [hd] at h
          have hb256 := b.toNat_lt
          have hty := (fir_ty hf).1
          have ht1 : 1 ≤ (b.toNat : Int) / 16 := by omega
          have ht2 : (b.toNat : Int) / 16 ≤ 14 := by omega
          cases ho : (othR b.toNat Z).2 with
          | true =>
            rw [ho, if_pos rfl] at h
            obtain ⟨x, z1, z2, z3, z4, z5, z6⟩ := oth5_yes b Z hf ho
            rw [z6] at h
            injection h with e1 h
            injection h with e2 h
            injection h with e3 e4
            subst e1 e2 e3 e4
            exact refDecode_oth b r Z m U w hf (by omega) hr hm hU1 (by omega) hZ x z1 z2 z3 z4 z5
          | false =>
            rw [ho, if_neg (by simp)] at h
            obtain ⟨x, hx⟩ := oth5_no b Z hf ho
            have hfit := gP_fit b.toNat Z (by omega) (by omega) hZl
            cases hp : (parR b.toNat Z).2.2 with
            | true =>
              rw [hp, if_pos rfl] at h
              injection h with e1 h
              injection h with e2 h
              injection h with e3 e4
              obtain ⟨y1, y2, y3, y4⟩ := gP_yes hf hp
              rw [y2] at hfit
              dsimp only at hfit
              simp only [e1, e2] at y1 y2 y3 y4 hfit
              subst e3 e4
              have hR : decide (0 ≤ restN P X) = true := decide_eq_true y1.lo
              exact refDecode_yes b r Z m U P X w hf (by omega) hr hm hU1 (by omega) hZ ht1 ht2 y2 hfit ⟨x, hx⟩ hR y1 y3 y4
            | false =>
              rw [hp, if_neg (by simp)] at h
              cases h
              obtain ⟨⟨Q, Y⟩, hQ⟩ : ∃ q, gP b.toNat Z = q := ⟨_, rfl⟩
              have hno := gP_no (c := b.toNat) (l := Z) (by omega) (by omega) hZl hp
              rw [hQ] at hfit hno
              dsimp only at hfit hno
              by_cases hR : 0 ≤ restN Q Y
              · have hO := ok_of hR
                by_cases hv : Q.ty * 16 + flagsN Q = b.toNat
                · have hB := hno hR hv
                  have hBb : (bodyL Q Y == Z) = false := by simpa using hB
                  exact refDecode_no3 b r Z m U Q Y w hf (by omega) hr hm hU1 (by omega) hZ ht1 ht2 hQ hfit ⟨x, hx⟩ (decide_eq_true hR) hO hv _ rfl hBb
                · have hvb : ((Q.ty * 16 + flagsN Q) != (b.toNat : Int)) = true := by simpa using hv
                  exact refDecode_no2 b r Z m U Q Y w hf (by omega) hr hm hU1 (by omega) hZ ht1 ht2 hQ hfit ⟨x, hx⟩ (decide_eq_true hR) hO _ rfl hvb
              · exact refDecode_no1 b r Z m U Q Y w hf (by omega) hr hm hU1 (by omega) hZ ht1 ht2 hQ hfit ⟨x, hx⟩ (decide_eq_false hR)
      · have h2 : decR (b :: r) = (zPk, [], 0, 2) := by simp [decR, cutR, hf, hr]
        rw [h2] at h
        cases h
        exact refDecode_len b r 0 0 2 w hf (by omega) hr (Or.inl rfl)
      · have h2 : decR (b :: r) = (zPk, [], 0, 4) := by simp [decR, cutR, hf, hr]
        rw [h2] at h
        cases h
        exact refDecode_len b r 0 0 4 w hf (by omega) hr (Or.inr rfl)
end Go.Proofs.YtnaedcennichlaaGreatDoor
