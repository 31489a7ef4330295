/-
  frame: what a framer answers, as plain functions.
-/
import Derived.Test.YtncgkkhpcgdcaaaDoorRdFwd
set_option linter.unusedSimpArgs false
set_option linter.unusedVariables false
namespace Go.Proofs.YtncgkkhpcgdcaaaDoor
set_option maxRecDepth 100000
/-- What is told: a packet (and its Subs), an error. -/
abbrev TX := (Pk × List (List UInt8 × Int)) × Int
/-- How many bytes a packet has, of what its length's bytes are read as. -/
def szT (m : Int) (t : Int × Int × Int) : Int × Int := if t.2.2 = 2 then (0, 0) else if t.2.2 = 0 then (if m < 1 + t.2.1 + t.1 then (0, 3) else (1 + t.2.1 + t.1, 0)) else (0, t.2.2)
def szR (m : Int) (b : List UInt8) : Int × Int := if b.isEmpty then (0, 0) else if firB (byV b) then szT m (rdR (b.tail.take 4)) else (0, 4)
def dcR (m : Int) (b : List UInt8) : Pk × List (List UInt8 × Int) × Int × Int :=
  if (szR m b).2 ≠ 0 ∨ (szR m b).1 = 0 ∨ (b.length : Int) < (szR m b).1 then (zPk, [], 0, (szR m b).2) else decR (b.take (szR m b).1.toNat)
theorem rdL_pre : ∀ (f : Nat) (l t : List UInt8) (s u i : Int), (rdL f (l.take f) s u i).2.2 ≠ 2 → rdL f ((l ++ t).take f) s u i = rdL f (l.take f) s u i
  | 0, l, t, s, u, i, h => by simp
  | f + 1, [], t, s, u, i, h => by simp [rdL] at h
  | f + 1, c :: l, t, s, u, i, h => by
    simp only [List.take_succ_cons, List.cons_append, rdL] at h ⊢
    split
    · rfl
    · rename_i hc
      rw [if_neg hc] at h
      exact rdL_pre f l t _ _ _ h
theorem rd_pre (l t : List UInt8) (h : (rdR (l.take 4)).2.2 ≠ 2) : rdR ((l ++ t).take 4) = rdR (l.take 4) := rdL_pre 4 l t 0 1 0 h
theorem rdL_enough : ∀ (f : Nat) (l : List UInt8) (s u i : Int), rdL f (l.take f) s u i = rdL f l s u i
  | 0, l, s, u, i => rfl
  | f + 1, [], s, u, i => by simp
  | f + 1, c :: l, s, u, i => by
    simp only [List.take_succ_cons, rdL]
    rw [rdL_enough f l]
theorem rd_take (l : List UInt8) : rdR (l.take 4) = rdR l := rdL_enough 4 l 0 1 0
theorem szT_two {m : Int} {t : Int × Int × Int} (h : (szT m t).1 ≠ 0 ∨ (szT m t).2 ≠ 0) : t.2.2 ≠ 2 := by
  intro e
  unfold szT at h
  rw [if_pos e] at h
  simp at h
theorem sz_cons (m : Int) (x : UInt8) (r : List UInt8) : szR m (x :: r) = if firB (x.toNat : Int) then szT m (rdR (r.take 4)) else (0, 4) := rfl
theorem sz_app {m : Int} {b t : List UInt8} (h : (szR m b).1 ≠ 0 ∨ (szR m b).2 ≠ 0) : szR m (b ++ t) = szR m b := by
  rcases b with _ | ⟨x, r⟩
  · simp [szR] at h
  · rw [sz_cons] at h
    rw [List.cons_append, sz_cons, sz_cons]
    by_cases hf : firB (x.toNat : Int) = true
    · rw [if_pos hf] at h ⊢
      rw [if_pos hf, rd_pre r t (szT_two h)]
    · rw [if_neg hf, if_neg hf]
/-- What a size is. -/
theorem sz_ok {m : Int} {b : List UInt8} (h0 : (szR m b).1 ≠ 0) : ∃ x r v u, b = x :: r ∧ firB x.toNat = true ∧ rdR r = (v, u, 0) ∧ 0 ≤ v ∧ 1 ≤ u ∧ u ≤ 4 ∧ u ≤ r.length ∧ (szR m b) = (1 + u + v, 0) ∧ 1 + u + v ≤ m := by
  rcases b with _ | ⟨x, r⟩
  · simp [szR] at h0
  · have hb : byV (x :: r) = x.toNat := rfl
    unfold szR at h0 ⊢
    simp only [List.isEmpty_cons, List.tail_cons, Bool.false_eq_true, if_false, hb] at h0 ⊢
    by_cases hf : firB (x.toNat) = true
    · simp only [hf, if_true, rd_take] at h0 ⊢
      have h2 := szT_two (Or.inl h0)
      unfold szT at h0 ⊢
      rw [if_neg h2] at h0 ⊢
      by_cases h3 : (rdR r).2.2 = 0
      · rw [if_pos h3] at h0 ⊢
        obtain ⟨j, hj, hc, hjl, hn0, hn1, ht⟩ := rdR_ok r (rdR r).1 (rdR r).2.1 (by rw [← h3])
        by_cases h4 : m < 1 + (rdR r).2.1 + (rdR r).1
        · rw [if_pos h4] at h0; simp at h0
        · exact ⟨x, r, (rdR r).1, (rdR r).2.1, rfl, hf, by rw [← h3], hn0, by omega, by omega, by omega, by rw [if_neg h4], by omega⟩
      · rw [if_neg h3] at h0; simp at h0
    · simp only [hf, Bool.false_eq_true, if_false] at h0
      simp at h0
theorem sz_bd (m : Int) (b : List UInt8) (hm : 0 ≤ m) : 0 ≤ (szR m b).1 ∧ (szR m b).1 ≤ m := by
  by_cases h : (szR m b).1 = 0
  · omega
  · obtain ⟨x, r, v, u, _, _, _, h1, h2, _, _, h4, h5⟩ := sz_ok h
    rw [h4]
    dsimp only
    omega
theorem sz_er (m : Int) (b : List UInt8) : (szR m b).2 = 0 ∨ (szR m b).2 = 3 ∨ (szR m b).2 = 4 := by
  unfold szR
  split
  · left; rfl
  · split
    · unfold szT
      split
      · left; rfl
      · split
        · split
          · right; left; rfl
          · left; rfl
        · rename_i h1 h2
          rcases rdR_bad (b.tail.take 4) with ⟨n, c, hh⟩ | hh | hh
          · rw [hh] at h2; exact absurd rfl h2
          · rw [hh] at h1; exact absurd rfl h1
          · rw [hh]; right; right; rfl
    · right; right; rfl
theorem dc_app {m : Int} {b t : List UInt8} (h : (dcR m b).2.2.1 ≠ 0 ∨ (dcR m b).2.2.2 ≠ 0) : dcR m (b ++ t) = dcR m b := by
  by_cases hs : (szR m b).1 ≠ 0 ∨ (szR m b).2 ≠ 0
  · unfold dcR at h ⊢
    rw [sz_app hs]
    by_cases h1 : (szR m b).2 ≠ 0 ∨ (szR m b).1 = 0
    · rw [if_pos (by rcases h1 with h1 | h1 <;> simp [h1]), if_pos (by rcases h1 with h1 | h1 <;> simp [h1])]
    · by_cases h2 : (b.length : Int) < (szR m b).1
      · rw [if_pos (Or.inr (Or.inr h2))] at h
        dsimp only at h
        exfalso
        rcases h with h | h
        · exact h rfl
        · exact h1 (Or.inl h)
      · rw [if_neg (by intro hh; rcases hh with hh | hh | hh; exact h1 (Or.inl hh); exact h1 (Or.inr hh); rw [List.length_append] at hh; omega), if_neg (by intro hh; rcases hh with hh | hh | hh; exact h1 (Or.inl hh); exact h1 (Or.inr hh); exact h2 hh)]
        rw [List.take_append_of_le_length (by omega)]
  · exfalso
    have h1 : (szR m b).1 = 0 := by by_cases e : (szR m b).1 = 0; exact e; exact absurd (Or.inl e) hs
    have h2 : (szR m b).2 = 0 := by by_cases e : (szR m b).2 = 0; exact e; exact absurd (Or.inr e) hs
    unfold dcR at h
    rw [if_pos (Or.inr (Or.inl h1)), h2] at h
    simp at h
/-- A packet that is cut off whole is cut out whole. -/
theorem cut_whole {m : Int} {b : List UInt8} (h0 : (szR m b).1 ≠ 0) (hl : (szR m b).1 ≤ b.length) : (cutR (b.take (szR m b).1.toNat)).2.1 = (szR m b).1 ∧ (cutR (b.take (szR m b).1.toNat)).2.2 = 0 := by
  obtain ⟨x, r, v, u, rfl, hf, hr, h1, h2, h3, h4, h5, h6⟩ := sz_ok h0
  rw [h5] at hl ⊢
  dsimp only at hl ⊢
  rw [List.length_cons] at hl
  have e : (x :: r).take (1 + u + v).toNat = x :: r.take (u + v).toNat := by
    rw [show (1 + u + v).toNat = (u + v).toNat + 1 by omega, List.take_succ_cons]
  have hrd : rdR (r.take (u + v).toNat) = (v, u, 0) := by
    obtain ⟨j, hj, hc, hjl, hn0, hn1, ht⟩ := rdR_ok r v u hr
    have e2 : r.take (u + v).toNat = encF j v ++ (r.take (u + v).toNat).drop (j + 1) := by
      rw [← ht]
      conv => lhs; rw [← List.take_append_drop (j + 1) (r.take (u + v).toNat)]
      rw [List.take_take, Nat.min_eq_left (by omega)]
    have e3 := rdL_enc j 3 v 0 1 0 ((r.take (u + v).toNat).drop (j + 1)) hj hn0 hn1
    rw [← e2] at e3
    unfold rdR
    rw [e3, hc]
    simp
  have hcl : ((r.take (u + v).toNat).length : Int) = u + v := by rw [List.length_take]; omega
  rw [e, cut_cons, if_pos hf, hrd, if_pos rfl]
  dsimp only
  rw [if_neg (by omega)]
  exact ⟨rfl, rfl⟩
/-- What the bytes of one packet are read as. -/
inductive DcK (m : Int) (b : List UInt8) : Prop
  | none (h : dcR m b = (zPk, [], 0, 0)) : DcK m b
  | err (e : Int) (h : dcR m b = (zPk, [], 0, e)) (he : e = 3 ∨ e = 4) : DcK m b
  | some (p : Pk) (xs : List (List UInt8 × Int)) (n : Nat) (h : dcR m b = (p, xs, (n : Int), 0)) (h1 : 2 ≤ n) (h2 : n ≤ b.length) (hk : (∃ v, p = (zPk.s_ty 1).s_level v ∧ xs = [] ∧ 0 ≤ v ∧ v ≤ 255 ∧ v ≠ 4) ∨ (Ok p xs ∧ Fit p xs ∧ (encL p xs).length ≤ n)) : DcK m b
theorem dc_sz {m : Int} {b : List UInt8} (h : ¬ ((szR m b).2 ≠ 0 ∨ (szR m b).1 = 0 ∨ (b.length : Int) < (szR m b).1)) : (szR m b).2 = 0 ∧ (szR m b).1 ≠ 0 ∧ (szR m b).1 ≤ b.length := by
  refine ⟨?_, ?_, ?_⟩
  · by_cases e : (szR m b).2 = 0
    · exact e
    · exact absurd (Or.inl e) h
  · intro e; exact h (Or.inr (Or.inl e))
  · by_cases e : (szR m b).1 ≤ b.length
    · exact e
    · exact absurd (Or.inr (Or.inr (by omega))) h
theorem dc_any (m : Int) (b : List UInt8) (hm : m ≤ 65536) : DcK m b := by
  by_cases h : (szR m b).2 ≠ 0 ∨ (szR m b).1 = 0 ∨ (b.length : Int) < (szR m b).1
  · have hd : dcR m b = (zPk, [], 0, (szR m b).2) := by unfold dcR; rw [if_pos h]
    rcases sz_er m b with e | e
    · rw [e] at hd; exact .none hd
    · exact .err _ hd e
  · obtain ⟨h1, h2, h3⟩ := dc_sz h
    have hd : dcR m b = decR (b.take (szR m b).1.toNat) := by unfold dcR; rw [if_neg h]
    obtain ⟨h4, h5⟩ := cut_whole h2 h3
    obtain ⟨s, hs⟩ : ∃ s, s = (szR m b).1 := ⟨_, rfl⟩
    have hsb : s ≤ 65536 := by
      obtain ⟨_, _, v, u, _, _, _, _, _, _, _, k4, k5⟩ := sz_ok h2
      rw [hs, k4]
      dsimp only
      omega
    rw [← hs] at hd h2 h3 h4 h5
    obtain ⟨T, hT⟩ : ∃ T, T = b.take s.toNat := ⟨_, rfl⟩
    have hTl : (T.length : Int) ≤ b.length := by rw [hT, List.length_take]; omega
    have hT6 : T.length ≤ 65536 := by rw [hT, List.length_take]; omega
    rw [← hT] at hd h4 h5
    have hcl : (cutR T).1.length ≤ 90000 := by
      obtain ⟨b0, r, n, u, k1, _, _, _, _, _, _, k8, _⟩ := cut_ok h5
      rw [k8]
      dsimp only
      rw [List.length_take, List.length_drop]
      rw [k1, List.length_cons] at hT6
      omega
    obtain ⟨p, xs, n, e, hde⟩ : ∃ p xs n e, decR T = (p, xs, n, e) := ⟨_, _, _, _, rfl⟩
    rw [hde] at hd
    by_cases he : e = 0
    · subst he
      rcases dec_ok hde hcl with ⟨v, b0, r, k1, k2, k3, k4, k5, k6, k7, k8, k9⟩ | ⟨b0, r, v, u, hw⟩
      · refine .some p xs n.toNat (by rw [hd]; congr 3; omega) (by omega) (by omega) (Or.inl ⟨v, k2, k3, k4, k5, k6⟩)
      · have w1 := hw.n
        have w2 := hw.lo
        have w3 := hw.u1
        have w4 := hw.le
        have w5 := hw.s
        have w6 := hw.enc
        have w7 := hw.len
        have hl : ((encL p xs).length : Int) ≤ n := by
          rw [w6, List.length_cons, List.length_append, List.length_take, List.length_drop]
          omega
        have hTl2 : T.length = r.length + 1 := by rw [w5]; simp
        refine .some p xs n.toNat (by rw [hd]; congr 3; omega) (by omega) (by omega) (Or.inr ⟨hw.ok, hw.fit, by omega⟩)
    · obtain ⟨k1, rfl, rfl, rfl⟩ := dec_er hde he
      refine .err e hd (Or.inr ?_)
      rcases k1 with rfl | rfl
      · exfalso
        unfold decR at hde
        rw [if_pos h5] at hde
        split at hde
        · simp at hde
        · split at hde <;> simp at hde
      · rfl
/-- What Next tells again and again, and what is left: bytes, and an error. -/
def drF : Nat → Int → List UInt8 → List TX × List UInt8 × Int
  | 0, _, b => ([], b, 0)
  | f + 1, m, b => if (dcR m b).2.2.2 = 0 then
      if 0 < (dcR m b).2.2.1 then ((((dcR m b).1, (dcR m b).2.1), 0) :: (drF f m (b.drop (dcR m b).2.2.1.toNat)).1, (drF f m (b.drop (dcR m b).2.2.1.toNat)).2) else ([], b, 0)
    else ([((zPk, []), (dcR m b).2.2.2)], [], (dcR m b).2.2.2)
def drR (m : Int) (b : List UInt8) : List TX × List UInt8 × Int := drF (b.length + 1) m b
section
variable {m : Int} {b t : List UInt8}
theorem drF_enough : ∀ (f : Nat) (b : List UInt8), m ≤ 65536 → b.length < f → drF f m b = drF (b.length + 1) m b
  | 0, b, _, h => by omega
  | f + 1, b, hm, h => by
    rcases dc_any m b hm with h1 | ⟨e, h1, he⟩ | ⟨p, xs, n, h1, h2, h3, _⟩
    · simp only [drF, h1]
      simp
    · have : e ≠ 0 := by omega
      simp only [drF, h1, this, if_false]
    · have hl : (b.drop n).length = b.length - n := List.length_drop
      simp only [drF, h1, if_true, Int.toNat_natCast]
      rw [drF_enough f (b.drop n) hm (by omega), drF_enough b.length (b.drop n) hm (by omega)]
theorem dr_none (h : dcR m b = (zPk, [], 0, 0)) : drR m b = ([], b, 0) := by
  unfold drR
  simp only [drF, h]
  simp
theorem dr_err {e : Int} (h : dcR m b = (zPk, [], 0, e)) (he : e ≠ 0) : drR m b = ([((zPk, []), e)], [], e) := by
  unfold drR
  simp only [drF, h, he, if_false]
theorem dr_some {p : Pk} {xs : List (List UInt8 × Int)} {n : Nat} (hm : m ≤ 65536) (h : dcR m b = (p, xs, (n : Int), 0)) (h1 : 1 ≤ n) (h2 : n ≤ b.length) : drR m b = (((p, xs), 0) :: (drR m (b.drop n)).1, (drR m (b.drop n)).2) := by
  unfold drR
  have hl : (b.drop n).length = b.length - n := List.length_drop
  rw [drF, h]
  have h3 : (0 : Int) < (n : Int) := by omega
  simp only [if_true, h3, Int.toNat_natCast]
  rw [drF_enough b.length (b.drop n) hm (by omega)]
/-- The bytes, in pieces. -/
theorem dr_app : ∀ (k : Nat) (b t : List UInt8), m ≤ 65536 → b.length < k → drR m (b ++ t) = if (drR m b).2.2 = 0 then ((drR m b).1 ++ (drR m ((drR m b).2.1 ++ t)).1, (drR m ((drR m b).2.1 ++ t)).2) else drR m b
  | 0, b, t, _, h => by omega
  | k + 1, b, t, hm, hk => by
    rcases dc_any m b hm with h1 | ⟨e, h1, he⟩ | ⟨p, xs, n, h1, h2, h3, _⟩
    · rw [dr_none h1]
      simp
    · have he0 : e ≠ 0 := by omega
      have h2 := dc_app (t := t) (Or.inr (by rw [h1]; exact he0) : (dcR m b).2.2.1 ≠ 0 ∨ (dcR m b).2.2.2 ≠ 0)
      rw [h1] at h2
      rw [dr_err h1 he0, dr_err h2 he0]
      simp [he0]
    · have h4 := dc_app (t := t) (Or.inl (by rw [h1]; dsimp only; omega) : (dcR m b).2.2.1 ≠ 0 ∨ (dcR m b).2.2.2 ≠ 0)
      rw [h1] at h4
      have hl : (b.drop n).length = b.length - n := List.length_drop
      have ih := dr_app k (b.drop n) t hm (by omega)
      rw [dr_some hm h1 (by omega) h3, dr_some hm h4 (by omega) (by rw [List.length_append]; omega), List.drop_append_of_le_length h3, ih]
      dsimp only
      split <;> simp
theorem dr_len : ∀ (k : Nat) (b : List UInt8), m ≤ 65536 → b.length < k → 2 * (drR m b).1.length ≤ b.length + 2 ∧ (drR m b).2.1.length ≤ b.length ∧ ((drR m b).2.2 ≠ 0 → (drR m b).2.1 = [])
  | 0, b, _, h => by omega
  | k + 1, b, hm, hk => by
    rcases dc_any m b hm with h1 | ⟨e, h1, he⟩ | ⟨p, xs, n, h1, h2, h3, _⟩
    · rw [dr_none h1]; simp
    · rw [dr_err h1 (by omega)]; simp
    · have hl : (b.drop n).length = b.length - n := List.length_drop
      have ih := dr_len k (b.drop n) hm (by omega)
      rw [dr_some hm h1 (by omega) h3]
      dsimp only
      rw [List.length_cons]
      refine ⟨by omega, by omega, ih.2.2⟩
/-- A framer is asked till it tells no packet: of its bytes and its error. -/
def dnR (m : Int) (b : List UInt8) (f : Int) : List TX × List UInt8 × Int := if f = 0 then drR m b else ([((zPk, []), f)], b, f)
end
end Go.Proofs.YtncgkkhpcgdcaaaDoor
