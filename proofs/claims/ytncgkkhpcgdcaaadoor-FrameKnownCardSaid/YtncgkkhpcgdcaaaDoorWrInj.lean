/-
  Encodings of packets begin with one another only if the packets are the same.
-/
import Derived.Test.YtncgkkhpcgdcaaaDoorWrMath
set_option linter.unusedSimpArgs false
set_option linter.unusedVariables false
namespace Go.Proofs.YtncgkkhpcgdcaaaDoor

theorem toB_inj {a b : Int} (a0 : 0 ≤ a) (a1 : a < 256) (b0 : 0 ≤ b) (b1 : b < 256) (h : toB a = toB b) : a = b := by
  rw [← toB_toNat a a0 a1, ← toB_toNat b b0 b1, h]
theorem word_inj {a b : Int} {x y : List UInt8} (a0 : 0 ≤ a) (a1 : a ≤ 65535) (b0 : 0 ≤ b) (b1 : b ≤ 65535) (h : wordL a ++ x = wordL b ++ y) : a = b ∧ x = y := by
  simp only [wordL, List.cons_append, List.nil_append, List.cons.injEq] at h
  obtain ⟨h1, h2, h3⟩ := h
  have e1 := toB_inj (by omega) (by omega) (by omega) (by omega) h1
  have e2 := toB_inj (by omega) (by omega) (by omega) (by omega) h2
  exact ⟨by omega, h3⟩
theorem field_inj {l m x y : List UInt8} (hl : l.length ≤ 65535) (hm : m.length ≤ 65535) (h : fieldL l ++ x = fieldL m ++ y) : l = m ∧ x = y := by
  have h' : wordL (l.length : Int) ++ (l ++ x) = wordL (m.length : Int) ++ (m ++ y) := h
  obtain ⟨e1, e2⟩ := word_inj (by omega) (by omega) (by omega) (by omega) h'
  exact List.append_inj e2 (by omega)
theorem sub_inj (t : Int) : ∀ (xs ys : List (List UInt8 × Int)), (∀ x ∈ xs, x.1.length ≤ 65535 ∧ 0 ≤ x.2 ∧ x.2 ≤ 255 ∧ (t ≠ 8 → x.2 = 0)) → (∀ x ∈ ys, x.1.length ≤ 65535 ∧ 0 ≤ x.2 ∧ x.2 ≤ 255 ∧ (t ≠ 8 → x.2 = 0)) → subX t xs = subX t ys → xs = ys
  | [], [], _, _, _ => rfl
  | [], y :: r, _, _, h => by simp [subX, fieldL] at h
  | x :: r, [], _, _, h => by simp [subX, fieldL] at h
  | x :: r, y :: s, hx, hy, h => by
    obtain ⟨x1, x2, x3, x4⟩ := hx x (by simp)
    obtain ⟨y1, y2, y3, y4⟩ := hy y (by simp)
    simp only [subX, List.append_assoc] at h
    obtain ⟨e1, h⟩ := field_inj x1 y1 h
    by_cases ht : t = 8
    · simp only [ht, if_true, List.cons_append, List.nil_append, List.cons.injEq] at h
      obtain ⟨h2, h3⟩ := h
      have e2 := toB_inj x2 (by omega) y2 (by omega) h2
      have := sub_inj t r s (fun z hz => hx z (by simp [hz])) (fun z hz => hy z (by simp [hz])) (by rw [ht]; exact h3)
      rw [this, Prod.ext e1 e2]
    · simp only [ht, if_false, List.nil_append] at h
      have := sub_inj t r s (fun z hz => hx z (by simp [hz])) (fun z hz => hy z (by simp [hz])) h
      rw [this, Prod.ext e1 (by rw [x4 ht, y4 ht])]
/-- What the bytes of a packet need of its numbers. -/
structure Num (p : Pk) (xs : List (List UInt8 × Int)) : Prop where
  ty : 0 ≤ p.ty ∧ p.ty ≤ 255
  qos : 0 ≤ p.qos ∧ p.qos ≤ 255
  id : 0 ≤ p.id ∧ p.id ≤ 65535
  level : 0 ≤ p.level ∧ p.level ≤ 255
  keep : 0 ≤ p.keep ∧ p.keep ≤ 65535
  wq : 0 ≤ p.wq ∧ p.wq ≤ 255
  code : 0 ≤ p.code ∧ p.code ≤ 255
  sub : ∀ x ∈ xs, 0 ≤ x.2 ∧ x.2 ≤ 255
theorem Fit.num' {p : Pk} {xs : List (List UInt8 × Int)} (h : Fit p xs) : Num p xs := ⟨h.ty, h.qos, h.id, h.level, h.keep, h.wq, h.code, h.sub⟩
theorem pub_qos {p : Pk} {xs : List (List UInt8 × Int)} (h : Ok p xs) (e : p.ty = 3) : p.qos ≤ 2 ∧ nmB p.topic = true := by
  have := h.pub e
  unfold pubR at this
  simp only [Bool.and_eq_true, decide_eq_true_eq] at this
  exact ⟨this.1.2, this.1.1⟩
theorem flags_bd {p : Pk} {xs : List (List UInt8 × Int)} (h : Ok p xs) (hn : Num p xs) : 0 ≤ flagsN p ∧ flagsN p < 16 := by
  unfold flagsN yesI
  by_cases e : p.ty = 3
  · have := (pub_qos h e).1
    have := hn.qos
    rw [if_pos e]
    split <;> split <;> omega
  · rw [if_neg e]
    split <;> omega
theorem ack_inj {p q : Pk} (hp : (ackL p).s_ty 0 = zPk) (hq : (ackL q).s_ty 0 = zPk) (ht : p.ty = q.ty) (h1 : p.present = q.present) (h2 : p.code = q.code) : p = q := by
  cases p; cases q
  simp only [ackL, Pk.s_present, Pk.s_code, Pk.s_ty, zPk, Pk.mk.injEq] at *
  simp_all
theorem con_inj {p q : Pk} (hp : (conL p).s_ty 0 = zPk) (hq : (conL q).s_ty 0 = zPk) (ht : p.ty = q.ty) (h1 : p.level = q.level) (h2 : p.clean = q.clean) (h3 : p.keep = q.keep) (h4 : p.client = q.client) (h5 : p.hasWill = q.hasWill) (h6 : p.wt = q.wt) (h7 : p.wl = q.wl) (h8 : p.wq = q.wq) (h9 : p.wr = q.wr)
    (h10 : p.hasUser = q.hasUser) (h11 : p.hasPass = q.hasPass) (h12 : p.user = q.user) (h13 : p.pass = q.pass) : p = q := by
  cases p; cases q
  simp only [conL, Pk.s_level, Pk.s_clean, Pk.s_keep, Pk.s_client, Pk.s_hasWill, Pk.s_will, Pk.s_hasUser, Pk.s_user, Pk.s_hasPass, Pk.s_pass, Pk.s_ty, zPk, Pk.mk.injEq] at *
  simp_all
theorem pub_inj {p q : Pk} (hp : (pubL p).s_ty 0 = zPk) (hq : (pubL q).s_ty 0 = zPk) (ht : p.ty = q.ty) (h1 : p.topic = q.topic) (h2 : p.load = q.load) (h3 : p.qos = q.qos) (h4 : p.ret = q.ret) (h5 : 0 < p.qos → p.id = q.id) (h6 : p.dup = q.dup) : p = q := by
  by_cases h0 : 0 < p.qos
  · rw [pubL_pos p h0] at hp
    rw [pubL_pos q (by omega)] at hq
    have h7 := h5 h0
    clear h5 h0
    cases p; cases q
    simp only [Pk.s_id, Pk.s_dup, Pk.s_topic, Pk.s_load, Pk.s_qos, Pk.s_ret, Pk.s_ty, zPk, Pk.mk.injEq] at *
    simp_all
  · rw [pubL_neg p h0] at hp
    rw [pubL_neg q (by omega)] at hq
    clear h5 h0
    cases p; cases q
    simp only [Pk.s_id, Pk.s_dup, Pk.s_topic, Pk.s_load, Pk.s_qos, Pk.s_ret, Pk.s_ty, zPk, Pk.mk.injEq] at *
    simp_all
theorem id_inj {p q : Pk} (hp : (p.s_id 0).s_ty 0 = zPk) (hq : (q.s_id 0).s_ty 0 = zPk) (ht : p.ty = q.ty) (h1 : p.id = q.id) : p = q := by
  cases p; cases q
  simp only [Pk.s_id, Pk.s_ty, zPk, Pk.mk.injEq] at *
  simp_all
theorem cd_inj {p q : Pk} (hp : ((p.s_id 0).s_codes []).s_ty 0 = zPk) (hq : ((q.s_id 0).s_codes []).s_ty 0 = zPk) (ht : p.ty = q.ty) (h1 : p.id = q.id) (h2 : p.codes = q.codes) : p = q := by
  cases p; cases q
  simp only [Pk.s_id, Pk.s_codes, Pk.s_ty, zPk, Pk.mk.injEq] at *
  simp_all
theorem no_inj {p q : Pk} (hp : p.s_ty 0 = zPk) (hq : q.s_ty 0 = zPk) (ht : p.ty = q.ty) : p = q := by
  cases p; cases q
  simp only [Pk.s_ty, zPk, Pk.mk.injEq] at *
  simp_all
theorem nil_of {xs : List (List UInt8 × Int)} {p : Pk} (h : takeN p xs.length = 0) (h8 : p.ty ≠ 8) (h10 : p.ty ≠ 10) : xs = [] := by
  simp [takeN, h8, h10] at h
  exact h
set_option maxHeartbeats 1000000 in
theorem cfl_inj {p q : Pk} (h1 : 0 ≤ p.wq) (h2 : p.wq ≤ 2) (h3 : 0 ≤ q.wq) (h4 : q.wq ≤ 2) (h : cflN p = cflN q) : p.hasUser = q.hasUser ∧ p.hasPass = q.hasPass ∧ p.wr = q.wr ∧ p.wq = q.wq ∧ p.hasWill = q.hasWill ∧ p.clean = q.clean := by
  unfold cflN yesI at h
  cases a1 : p.hasUser <;> cases b1 : q.hasUser <;> simp only [a1, b1, if_true, if_false, Bool.false_eq_true] at h <;> try (exfalso; split at h <;> split at h <;> split at h <;> split at h <;> split at h <;> split at h <;> split at h <;> split at h <;> split at h <;> split at h <;> omega)
  all_goals
    cases a2 : p.hasPass <;> cases b2 : q.hasPass <;> simp only [a2, b2, if_true, if_false, Bool.false_eq_true] at h <;> try (exfalso; split at h <;> split at h <;> split at h <;> split at h <;> split at h <;> split at h <;> split at h <;> split at h <;> omega)
  all_goals
    cases a3 : p.wr <;> cases b3 : q.wr <;> simp only [a3, b3, if_true, if_false, Bool.false_eq_true] at h <;> try (exfalso; split at h <;> split at h <;> split at h <;> split at h <;> omega)
  all_goals
    cases a4 : p.hasWill <;> cases b4 : q.hasWill <;> simp only [a4, b4, if_true, if_false, Bool.false_eq_true] at h <;> cases a5 : p.clean <;> cases b5 : q.clean <;> simp only [a5, b5, if_true, if_false, Bool.false_eq_true] at h <;> first | (exfalso; omega) | (refine ⟨rfl, rfl, rfl, ?_, rfl, rfl⟩; omega)
theorem cfl_bd {p : Pk} (h1 : 0 ≤ p.wq) (h2 : p.wq ≤ 2) : 0 ≤ cflN p ∧ cflN p < 256 := by
  unfold cflN yesI
  split <;> split <;> split <;> split <;> split <;> omega
theorem body_inj {p q : Pk} {xs ys : List (List UInt8 × Int)} (hp : Ok p xs) (hq : Ok q ys) (np : Num p xs) (nq : Num q ys) (ht : p.ty = q.ty) (hf : flagsN p = flagsN q) (h : bodyL p xs = bodyL q ys) : p = q ∧ xs = ys := by
  have zp := hp.zero
  have zq := hq.zero
  have tp := hp.none
  have tq := hq.none
  unfold bodyL at h
  rw [← ht] at h
  rcases hp.ty with e | e | e | e | e | e | e | e | e | e | e | e | e | e
  · have eq : q.ty = 1 := by rw [← ht]; exact e
    have cp := con_of (hp.con e)
    have cq := con_of (hq.con eq)
    have lp : p.level = 4 := by have := hp.con e; simp only [conR, Bool.and_eq_true, beq_iff_eq] at this; exact this.1
    have lq : q.level = 4 := by have := hq.con eq; simp only [conR, Bool.and_eq_true, beq_iff_eq] at this; exact this.1
    have wp := cp.wq np.wq.1
    have wq := cq.wq nq.wq.1
    rw [if_pos e, if_pos e] at h
    unfold conX at h
    have h := List.append_cancel_left h
    have h := List.append_cancel_left h
    simp only [List.cons_append, List.nil_append, List.cons.injEq] at h
    obtain ⟨h1, h⟩ := h
    have bp := cfl_bd np.wq.1 wp
    have bq := cfl_bd nq.wq.1 wq
    obtain ⟨f1, f2, f3, f4, f5, f6⟩ := cfl_inj np.wq.1 wp nq.wq.1 wq (toB_inj bp.1 bp.2 bq.1 bq.2 h1)
    obtain ⟨g1, h⟩ := word_inj np.keep.1 np.keep.2 nq.keep.1 nq.keep.2 h
    obtain ⟨g2, h⟩ := field_inj (val_len cp.client) (val_len cq.client) h
    have hw : p.wt = q.wt ∧ p.wl = q.wl ∧ userL p ++ passL p = userL q ++ passL q := by
      unfold willL at h
      rw [← f5] at h
      cases hh : p.hasWill with
      | true =>
        rw [if_pos hh, if_pos hh, List.append_assoc, List.append_assoc] at h
        obtain ⟨k1, h⟩ := field_inj (val_len (cp.wt hh)) (val_len (cq.wt (by rw [← f5]; exact hh))) h
        obtain ⟨k2, h⟩ := field_inj (cp.wl hh) (cq.wl (by rw [← f5]; exact hh)) h
        exact ⟨k1, k2, h⟩
      | false =>
        rw [if_neg (by simp [hh]), if_neg (by simp [hh])] at h
        obtain ⟨k1, k2, _⟩ := cp.will hh
        obtain ⟨j1, j2, _⟩ := cq.will (by rw [← f5]; exact hh)
        exact ⟨by rw [k1, j1], by rw [k2, j2], h⟩
    obtain ⟨w1, w2, h⟩ := hw
    have hu : p.user = q.user ∧ passL p = passL q := by
      unfold userL at h
      rw [← f1] at h
      cases hh : p.hasUser with
      | true =>
        rw [if_pos hh, if_pos hh] at h
        exact field_inj (val_len (cp.user hh)) (val_len (cq.user (by rw [← f1]; exact hh))) h
      | false =>
        rw [if_neg (by simp [hh]), if_neg (by simp [hh])] at h
        exact ⟨by rw [cp.user0 hh, cq.user0 (by rw [← f1]; exact hh)], h⟩
    obtain ⟨u1, h⟩ := hu
    have hs : p.pass = q.pass := by
      unfold passL at h
      rw [← f2] at h
      cases hh : p.hasPass with
      | true =>
        rw [if_pos hh, if_pos hh] at h
        have h' : fieldL p.pass ++ [] = fieldL q.pass ++ [] := by simpa using h
        exact (field_inj (cp.pass hh) (cq.pass (by rw [← f2]; exact hh)) h').1
      | false => rw [cp.pass0 hh, cq.pass0 (by rw [← f2]; exact hh)]
    have z1 : takeL p = conL p := by simp [takeL, e]
    have z2 : takeL q = conL q := by simp [takeL, eq]
    rw [z1] at zp
    rw [z2] at zq
    refine ⟨con_inj zp zq ht (by rw [lp, lq]) f6 g1 g2 f5 w1 w2 f4 f3 f1 f2 u1 hs, ?_⟩
    rw [nil_of tp (by omega) (by omega), nil_of tq (by omega) (by omega)]
  · have eq : q.ty = 2 := by rw [← ht]; exact e
    have ap : p.code ≤ 5 := by have := hp.ack e; simp only [ackR, Bool.and_eq_true, decide_eq_true_eq] at this; exact this.1
    have z1 : takeL p = ackL p := by simp [takeL, e]
    have z2 : takeL q = ackL q := by simp [takeL, eq]
    rw [z1] at zp
    rw [z2] at zq
    simp only [e, if_true, if_false, Int.reduceEq, List.cons.injEq, and_true] at h
    have h2 := toB_inj np.code.1 (by have := np.code; omega) nq.code.1 (by have := nq.code; omega) h.2
    have h1 : p.present = q.present := by
      have := h.1
      cases a : p.present <;> cases b : q.present <;> rw [a, b] at this <;> first | rfl | (exact absurd this (by decide))
    exact ⟨ack_inj zp zq ht h1 h2, by rw [nil_of tp (by omega) (by omega), nil_of tq (by omega) (by omega)]⟩
  · have eq : q.ty = 3 := by rw [← ht]; exact e
    obtain ⟨qp, mp⟩ := pub_qos hp e
    obtain ⟨qq, mq⟩ := pub_qos hq eq
    have z1 : takeL p = pubL p := by simp [takeL, e]
    have z2 : takeL q = pubL q := by simp [takeL, eq]
    rw [z1] at zp
    rw [z2] at zq
    have p0 := np.qos
    have q0 := nq.qos
    simp only [e, if_true, if_false, Int.reduceEq] at h
    unfold flagsN at hf
    rw [if_pos e, if_pos eq] at hf
    have hfl : p.dup = q.dup ∧ p.qos = q.qos ∧ p.ret = q.ret := by
      unfold yesI at hf
      cases a : p.dup <;> cases b : q.dup <;> cases c : p.ret <;> cases d : q.ret <;> rw [a, b, c, d] at hf <;> simp only [if_true, if_false, Bool.false_eq_true] at hf <;> first | (exfalso; omega) | (refine ⟨rfl, ?_, rfl⟩; omega)
    obtain ⟨f1, f2, f3⟩ := hfl
    unfold pubX at h
    obtain ⟨k1, h⟩ := field_inj (val_len (nm_val mp)) (val_len (nm_val mq)) h
    rw [← f2] at h
    by_cases h0 : 0 < p.qos
    · rw [if_pos h0, if_pos h0] at h
      obtain ⟨k2, k3⟩ := word_inj np.id.1 np.id.2 nq.id.1 nq.id.2 h
      exact ⟨pub_inj zp zq ht k1 k3 f2 f3 (fun _ => k2) f1, by rw [nil_of tp (by omega) (by omega), nil_of tq (by omega) (by omega)]⟩
    · rw [if_neg h0, if_neg h0] at h
      exact ⟨pub_inj zp zq ht k1 h f2 f3 (fun hh => absurd hh h0) f1, by rw [nil_of tp (by omega) (by omega), nil_of tq (by omega) (by omega)]⟩
  · have eq : q.ty = 4 := by rw [← ht]; exact e
    have z1 : takeL p = p.s_id 0 := by simp [takeL, e]
    have z2 : takeL q = q.s_id 0 := by simp [takeL, eq]
    rw [z1] at zp
    rw [z2] at zq
    simp only [e, if_false, Int.reduceEq, or_self] at h
    have h1 := (word_inj (x := []) (y := []) np.id.1 np.id.2 nq.id.1 nq.id.2 (by simpa using h)).1
    exact ⟨id_inj zp zq ht h1, by rw [nil_of tp (by omega) (by omega), nil_of tq (by omega) (by omega)]⟩
  · have eq : q.ty = 5 := by rw [← ht]; exact e
    have z1 : takeL p = p.s_id 0 := by simp [takeL, e]
    have z2 : takeL q = q.s_id 0 := by simp [takeL, eq]
    rw [z1] at zp
    rw [z2] at zq
    simp only [e, if_false, Int.reduceEq, or_self] at h
    have h1 := (word_inj (x := []) (y := []) np.id.1 np.id.2 nq.id.1 nq.id.2 (by simpa using h)).1
    exact ⟨id_inj zp zq ht h1, by rw [nil_of tp (by omega) (by omega), nil_of tq (by omega) (by omega)]⟩
  · have eq : q.ty = 6 := by rw [← ht]; exact e
    have z1 : takeL p = p.s_id 0 := by simp [takeL, e]
    have z2 : takeL q = q.s_id 0 := by simp [takeL, eq]
    rw [z1] at zp
    rw [z2] at zq
    simp only [e, if_false, Int.reduceEq, or_self] at h
    have h1 := (word_inj (x := []) (y := []) np.id.1 np.id.2 nq.id.1 nq.id.2 (by simpa using h)).1
    exact ⟨id_inj zp zq ht h1, by rw [nil_of tp (by omega) (by omega), nil_of tq (by omega) (by omega)]⟩
  · have eq : q.ty = 7 := by rw [← ht]; exact e
    have z1 : takeL p = p.s_id 0 := by simp [takeL, e]
    have z2 : takeL q = q.s_id 0 := by simp [takeL, eq]
    rw [z1] at zp
    rw [z2] at zq
    simp only [e, if_false, Int.reduceEq, or_self] at h
    have h1 := (word_inj (x := []) (y := []) np.id.1 np.id.2 nq.id.1 nq.id.2 (by simpa using h)).1
    exact ⟨id_inj zp zq ht h1, by rw [nil_of tp (by omega) (by omega), nil_of tq (by omega) (by omega)]⟩
  · have eq : q.ty = 8 := by rw [← ht]; exact e
    have z1 : takeL p = p.s_id 0 := by simp [takeL, e]
    have z2 : takeL q = q.s_id 0 := by simp [takeL, eq]
    rw [z1] at zp
    rw [z2] at zq
    simp only [e, if_true, if_false, Int.reduceEq, true_or] at h
    obtain ⟨h1, h2⟩ := word_inj np.id.1 np.id.2 nq.id.1 nq.id.2 h
    refine ⟨id_inj zp zq ht h1, sub_inj 8 xs ys (fun x hx => ?_) (fun x hx => ?_) h2⟩
    · exact ⟨val_len (sbR_mem (hp.sub e) x hx).1, (np.sub x hx).1, (np.sub x hx).2, fun hh => absurd rfl hh⟩
    · exact ⟨val_len (sbR_mem (hq.sub eq) x hx).1, (nq.sub x hx).1, (nq.sub x hx).2, fun hh => absurd rfl hh⟩
  · have eq : q.ty = 9 := by rw [← ht]; exact e
    have z1 : takeL p = (p.s_id 0).s_codes [] := by simp [takeL, e]
    have z2 : takeL q = (q.s_id 0).s_codes [] := by simp [takeL, eq]
    rw [z1] at zp
    rw [z2] at zq
    simp only [e, if_true, if_false, Int.reduceEq, or_self] at h
    obtain ⟨h1, h2⟩ := word_inj np.id.1 np.id.2 nq.id.1 nq.id.2 h
    exact ⟨cd_inj zp zq ht h1 h2, by rw [nil_of tp (by omega) (by omega), nil_of tq (by omega) (by omega)]⟩
  · have eq : q.ty = 10 := by rw [← ht]; exact e
    have z1 : takeL p = p.s_id 0 := by simp [takeL, e]
    have z2 : takeL q = q.s_id 0 := by simp [takeL, eq]
    rw [z1] at zp
    rw [z2] at zq
    simp only [e, if_true, if_false, Int.reduceEq, or_true] at h
    obtain ⟨h1, h2⟩ := word_inj np.id.1 np.id.2 nq.id.1 nq.id.2 h
    refine ⟨id_inj zp zq ht h1, sub_inj 10 xs ys (fun x hx => ?_) (fun x hx => ?_) h2⟩
    · have hm := sbR_mem (hp.uns e) x hx
      exact ⟨val_len hm.1, (np.sub x hx).1, (np.sub x hx).2, fun _ => by have := (np.sub x hx).1; have := hm.2; omega⟩
    · have hm := sbR_mem (hq.uns eq) x hx
      exact ⟨val_len hm.1, (nq.sub x hx).1, (nq.sub x hx).2, fun _ => by have := (nq.sub x hx).1; have := hm.2; omega⟩
  · have eq : q.ty = 11 := by rw [← ht]; exact e
    have z1 : takeL p = p.s_id 0 := by simp [takeL, e]
    have z2 : takeL q = q.s_id 0 := by simp [takeL, eq]
    rw [z1] at zp
    rw [z2] at zq
    simp only [e, if_false, Int.reduceEq, or_self] at h
    have h1 := (word_inj (x := []) (y := []) np.id.1 np.id.2 nq.id.1 nq.id.2 (by simpa using h)).1
    exact ⟨id_inj zp zq ht h1, by rw [nil_of tp (by omega) (by omega), nil_of tq (by omega) (by omega)]⟩
  · have eq : q.ty = 12 := by rw [← ht]; exact e
    have z1 : takeL p = p := by simp [takeL, e]
    have z2 : takeL q = q := by simp [takeL, eq]
    rw [z1] at zp
    rw [z2] at zq
    exact ⟨no_inj zp zq ht, by rw [nil_of tp (by omega) (by omega), nil_of tq (by omega) (by omega)]⟩
  · have eq : q.ty = 13 := by rw [← ht]; exact e
    have z1 : takeL p = p := by simp [takeL, e]
    have z2 : takeL q = q := by simp [takeL, eq]
    rw [z1] at zp
    rw [z2] at zq
    exact ⟨no_inj zp zq ht, by rw [nil_of tp (by omega) (by omega), nil_of tq (by omega) (by omega)]⟩
  · have eq : q.ty = 14 := by rw [← ht]; exact e
    have z1 : takeL p = p := by simp [takeL, e]
    have z2 : takeL q = q := by simp [takeL, eq]
    rw [z1] at zp
    rw [z2] at zq
    exact ⟨no_inj zp zq ht, by rw [nil_of tp (by omega) (by omega), nil_of tq (by omega) (by omega)]⟩
theorem enc_inj {p q : Pk} {xs ys : List (List UInt8 × Int)} (hp : Ok p xs) (hq : Ok q ys) (np : Num p xs) (nq : Num q ys) (t : List UInt8) (h : encL p xs ++ t = encL q ys) : p = q ∧ xs = ys := by
  unfold encL at h
  simp only [List.cons_append, List.append_assoc, List.cons.injEq] at h
  obtain ⟨h1, h2⟩ := h
  have bp := flags_bd hp np
  have bq := flags_bd hq nq
  have tp : 1 ≤ p.ty ∧ p.ty ≤ 14 := by have := hp.ty; omega
  have tq : 1 ≤ q.ty ∧ q.ty ≤ 14 := by have := hq.ty; omega
  have e := toB_inj (by omega) (by omega) (by omega) (by omega) h1
  have r1 := rdR_back (restN p xs) (bodyL p xs ++ t) hp.lo hp.hi
  have r2 := rdR_back (restN q ys) (bodyL q ys) hq.lo hq.hi
  rw [h2] at r1
  have hr : restN p xs = restN q ys := by
    rw [r1] at r2
    exact (Prod.mk.inj r2).1
  rw [hr] at h2
  have h3 := List.append_cancel_left h2
  have l1 := body_len hp
  have l2 := body_len hq
  have h4 : bodyL p xs = bodyL q ys := (List.append_inj (by simpa using h3 : bodyL p xs ++ t = bodyL q ys ++ []) (by omega)).1
  exact body_inj hp hq np nq (by omega) (by omega) h4
/-- Does the one begin with the other? -/
def begB (s t : List UInt8) : Bool := decide (s.length ≤ t.length) && t.take s.length == s
theorem beg_enc {p q : Pk} {xs ys : List (List UInt8 × Int)} (hp : Ok p xs) (hq : Ok q ys) (np : Num p xs) (nq : Num q ys) : begB (encL p xs) (encL q ys) = (eqPk p q && xs == ys) ∧ (encL p xs == encL q ys) = (eqPk p q && xs == ys) := by
  by_cases h : p = q ∧ xs = ys
  · obtain ⟨rfl, rfl⟩ := h
    have he : eqPk p p = true := (eqPk_iff p p).2 rfl
    simp [begB, he]
  · have hr : (eqPk p q && xs == ys) = false := by
      rw [Bool.eq_false_iff]
      intro hh
      simp only [Bool.and_eq_true, beq_iff_eq] at hh
      exact h ⟨(eqPk_iff p q).1 hh.1, hh.2⟩
    rw [hr]
    constructor
    · rw [Bool.eq_false_iff]
      intro hh
      simp only [begB, Bool.and_eq_true, beq_iff_eq, decide_eq_true_eq] at hh
      refine h (enc_inj hp hq np nq ((encL q ys).drop (encL p xs).length) ?_)
      rw [← hh.2, List.length_take, Nat.min_eq_left hh.1, List.take_append_drop]
    · rw [Bool.eq_false_iff]
      intro hh
      simp only [beq_iff_eq] at hh
      exact h (enc_inj hp hq np nq [] (by simpa using hh))
end Go.Proofs.YtncgkkhpcgdcaaaDoor
