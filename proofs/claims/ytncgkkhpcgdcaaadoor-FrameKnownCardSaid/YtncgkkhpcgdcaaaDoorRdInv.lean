/-
  read: what the parser takes is what stands there, and what a packet's bytes are is taken as the packet.
-/
import Derived.Test.YtncgkkhpcgdcaaaDoorRdMath
set_option linter.unusedSimpArgs false
set_option linter.unusedVariables false
namespace Go.Proofs.YtncgkkhpcgdcaaaDoor

/-! Bits -/
theorem cfl_all : ∀ n : Fin 256, bitB (n.val : Int) 1 = false → yesI (bitB (n.val : Int) 128) 128 + yesI (bitB (n.val : Int) 64) 64 + yesI (bitB (n.val : Int) 32) 32 + (n.val : Int) / 8 % 4 * 8 + yesI (bitB (n.val : Int) 4) 4 + yesI (bitB (n.val : Int) 2) 2 = (n.val : Int) := by decide +kernel
theorem cfl_of {c : Int} (h0 : 0 ≤ c) (h1 : c ≤ 255) (h : bitB c 1 = false) : yesI (bitB c 128) 128 + yesI (bitB c 64) 64 + yesI (bitB c 32) 32 + c / 8 % 4 * 8 + yesI (bitB c 4) 4 + yesI (bitB c 2) 2 = c := by
  have := cfl_all ⟨c.toNat, by omega⟩
  rw [show ((⟨c.toNat, by omega⟩ : Fin 256).val : Int) = c from by show (c.toNat : Int) = c; omega] at this
  exact this h
theorem pfl_all : ∀ n : Fin 16, yesI (bitB (n.val : Int) 8) 8 + (n.val : Int) / 2 % 4 * 2 + yesI (bitB (n.val : Int) 1) 1 = (n.val : Int) := by decide +kernel
theorem pfl_of {c : Int} (h0 : 0 ≤ c) (h1 : c < 16) : yesI (bitB c 8) 8 + c / 2 % 4 * 2 + yesI (bitB c 1) 1 = c := by
  have := pfl_all ⟨c.toNat, by omega⟩
  rw [show ((⟨c.toNat, by omega⟩ : Fin 16).val : Int) = c from by show (c.toNat : Int) = c; omega] at this
  exact this
theorem cbits_all : ∀ (a b c d e : Bool) (q : Fin 3), bitB (yesI a 128 + yesI b 64 + yesI c 32 + (q.val : Int) * 8 + yesI d 4 + yesI e 2) 1 = false ∧ bitB (yesI a 128 + yesI b 64 + yesI c 32 + (q.val : Int) * 8 + yesI d 4 + yesI e 2) 2 = e ∧ bitB (yesI a 128 + yesI b 64 + yesI c 32 + (q.val : Int) * 8 + yesI d 4 + yesI e 2) 4 = d
    ∧ (yesI a 128 + yesI b 64 + yesI c 32 + (q.val : Int) * 8 + yesI d 4 + yesI e 2) / 8 % 4 = (q.val : Int) ∧ bitB (yesI a 128 + yesI b 64 + yesI c 32 + (q.val : Int) * 8 + yesI d 4 + yesI e 2) 32 = c ∧ bitB (yesI a 128 + yesI b 64 + yesI c 32 + (q.val : Int) * 8 + yesI d 4 + yesI e 2) 64 = b
    ∧ bitB (yesI a 128 + yesI b 64 + yesI c 32 + (q.val : Int) * 8 + yesI d 4 + yesI e 2) 128 = a := by decide +kernel
theorem cbits (p : Pk) (h0 : 0 ≤ p.wq) (h1 : p.wq ≤ 2) : bitB (cflN p) 1 = false ∧ bitB (cflN p) 2 = p.clean ∧ bitB (cflN p) 4 = p.hasWill ∧ cflN p / 8 % 4 = p.wq ∧ bitB (cflN p) 32 = p.wr ∧ bitB (cflN p) 64 = p.hasPass ∧ bitB (cflN p) 128 = p.hasUser := by
  have := cbits_all p.hasUser p.hasPass p.wr p.hasWill p.clean ⟨p.wq.toNat, by omega⟩
  rw [show ((⟨p.wq.toNat, by omega⟩ : Fin 3).val : Int) = p.wq from by show (p.wq.toNat : Int) = p.wq; omega] at this
  exact this
theorem pbits_all : ∀ (a b : Bool) (q : Fin 3), bitB (yesI a 8 + (q.val : Int) * 2 + yesI b 1) 8 = a ∧ (yesI a 8 + (q.val : Int) * 2 + yesI b 1) / 2 % 4 = (q.val : Int) ∧ bitB (yesI a 8 + (q.val : Int) * 2 + yesI b 1) 1 = b := by decide +kernel
theorem pbits (p : Pk) (h : p.ty = 3) (h0 : 0 ≤ p.qos) (h1 : p.qos ≤ 2) : bitB (flagsN p) 8 = p.dup ∧ flagsN p / 2 % 4 = p.qos ∧ bitB (flagsN p) 1 = p.ret := by
  have := pbits_all p.dup p.ret ⟨p.qos.toNat, by omega⟩
  rw [show ((⟨p.qos.toNat, by omega⟩ : Fin 3).val : Int) = p.qos from by show (p.qos.toNat : Int) = p.qos; omega] at this
  unfold flagsN
  rw [if_pos h]
  exact this

/-! What the parser takes -/
def conY (p : Pk) : List UInt8 := fieldL nameL ++ ([toB p.level] ++ ([toB (cflN p)] ++ (wordL p.keep ++ (fieldL p.client ++ (willL p ++ (userL p ++ passL p))))))
/-- A packet's rest, whatever its level. -/
def bodyY (p : Pk) (xs : List (List UInt8 × Int)) : List UInt8 := if p.ty = 1 then conY p else bodyL p xs
structure Got (t fl : Int) (l : List UInt8) (p : Pk) (xs : List (List UInt8 × Int)) : Prop where
  ty : p.ty = t
  body : bodyY p xs = l
  tot : totB p xs ≤ l.length
  num : xs.length * 2 ≤ l.length
  nums : Num p xs
  flags : flagsN p = fl

theorem nb8 (n : Int) (h : (decide (0 ≤ n) && decide (n ≤ 255)) = true) : 0 ≤ n ∧ n ≤ 255 := by simpa using h
theorem nb16 (n : Int) (h : (decide (0 ≤ n) && decide (n ≤ 65535)) = true) : 0 ≤ n ∧ n ≤ 65535 := by simpa using h
theorem name_ok {s : Ps} (h : (psName s).f = false) : s.f = false ∧ s.l = fieldL nameL ++ (psName s).l ∧ (psName s).p = s.p := by
  unfold psName at h ⊢
  split at h
  · rename_i hn
    rw [if_pos hn]
    obtain ⟨h1, h2, _⟩ := tx_ok h
    rw [hn] at h2
    exact ⟨h1, h2, rfl⟩
  · cases h
theorem flag_ok {s : Ps} (h : (psFlag s).f = false) : s.f = false ∧ s.l = toB (byV s.l) :: (psFlag s).l ∧ bitB (byV s.l) 1 = false ∧ (psFlag s).p = s.p.s_clean (bitB (byV s.l) 2) := by
  unfold psFlag at h ⊢
  cases hb : bitB (byV s.l) 1 with
  | true => rw [hb, if_pos rfl] at h; cases h
  | false =>
    rw [hb, if_neg (by simp)] at h
    rw [if_neg (by simp)]
    obtain ⟨h1, h2, _⟩ := by_ok h
    exact ⟨h1, h2, rfl, rfl⟩
theorem will_ok {c : Int} {s : Ps} (h : (psWill c s).f = false) : ∃ wt wl, s.f = false ∧ s.l = (if bitB c 4 then fieldL wt ++ fieldL wl else []) ++ (psWill c s).l ∧ (bitB c 4 = false → wt = [] ∧ wl = []) ∧ wt.length ≤ 65535 ∧ wl.length ≤ 65535 ∧
    (s.p.wt = [] → s.p.wl = [] → (psWill c s).p = (s.p.s_hasWill (bitB c 4)).s_will wt wl (c / 8 % 4) (bitB c 32)) := by
  unfold psWill at h ⊢
  cases hb : bitB c 4 with
  | false =>
    rw [hb, if_neg (by simp)] at h
    rw [if_neg (by simp)]
    refine ⟨[], [], h, rfl, fun _ => ⟨rfl, rfl⟩, by decide, by decide, fun h1 h2 => ?_⟩
    show ((s.p.s_hasWill false).s_wq (c / 8 % 4)).s_wr (bitB c 32) = _
    simp only [Pk.s_hasWill, Pk.s_wq, Pk.s_wr, Pk.s_will, h1, h2]
  | true =>
    rw [hb, if_pos rfl] at h
    rw [if_pos rfl]
    obtain ⟨h1, h2, h3⟩ := da_ok h
    obtain ⟨h4, h5, h6⟩ := tx_ok (l := s.l) h1
    refine ⟨gtV (getR s.l), gtV (getD (gtL s.l (getR s.l))), h4, ?_, fun h => (by cases h), val_len h6, h3, fun _ _ => ?_⟩
    · show s.l = (fieldL (gtV (getR s.l)) ++ fieldL (gtV (getD (gtL s.l (getR s.l))))) ++ gtL (gtL s.l (getR s.l)) (getD (gtL s.l (getR s.l)))
      rw [List.append_assoc]
      have h2' : gtL s.l (getR s.l) = fieldL (gtV (getD (gtL s.l (getR s.l)))) ++ gtL (gtL s.l (getR s.l)) (getD (gtL s.l (getR s.l))) := h2
      rw [← h2']
      exact h5
    · simp only [psWillL, psWillT, Pk.s_hasWill, Pk.s_wq, Pk.s_wr, Pk.s_will, Pk.s_wt, Pk.s_wl]
theorem login_ok {c : Int} {s : Ps} (h : (psLogin c s).f = false) : ∃ us pa, s.f = false ∧ s.l = (if bitB c 128 then fieldL us else []) ++ ((if bitB c 64 then fieldL pa else []) ++ (psLogin c s).l) ∧ (bitB c 128 = false → us = []) ∧ (bitB c 64 = false → pa = []) ∧ us.length ≤ 65535 ∧ pa.length ≤ 65535 ∧
    (s.p.user = [] → s.p.pass = [] → (psLogin c s).p = (((s.p.s_hasUser (bitB c 128)).s_hasPass (bitB c 64)).s_user us).s_pass pa) := by
  unfold psLogin at h ⊢
  cases ha : bitB c 128 with
  | false =>
    cases hb : bitB c 64 with
    | false =>
      rw [ha, hb, if_neg (by simp), if_neg (by simp)] at h
      rw [if_neg (by simp), if_neg (by simp)]
      refine ⟨[], [], h, rfl, fun _ => rfl, fun _ => rfl, by decide, by decide, fun h1 h2 => ?_⟩
      simp only [psHas, Pk.s_hasUser, Pk.s_hasPass, Pk.s_user, Pk.s_pass, h1, h2, ha, hb]
    | true =>
      rw [ha, hb, if_neg (by simp), if_pos rfl] at h
      rw [if_neg (by simp), if_pos rfl]
      obtain ⟨h1, h2, h3⟩ := da_ok (l := s.l) h
      refine ⟨[], gtV (getD s.l), h1, h2, fun _ => rfl, fun h => (by cases h), by decide, h3, fun k1 _ => ?_⟩
      simp only [psPassT, psHas, Pk.s_hasUser, Pk.s_hasPass, Pk.s_user, Pk.s_pass, k1, ha, hb]
  | true =>
    cases hb : bitB c 64 with
    | false =>
      rw [ha, hb, if_pos rfl, if_neg (by simp)] at h
      rw [if_pos rfl, if_neg (by simp)]
      obtain ⟨h1, h2, h3⟩ := tx_ok (l := s.l) h
      refine ⟨gtV (getR s.l), [], h1, h2, fun h => (by cases h), fun _ => rfl, val_len h3, by decide, fun _ k2 => ?_⟩
      simp only [psUserT, psHas, Pk.s_hasUser, Pk.s_hasPass, Pk.s_user, Pk.s_pass, k2, ha, hb]
    | true =>
      rw [ha, hb, if_pos rfl, if_pos rfl] at h
      rw [if_pos rfl, if_pos rfl]
      obtain ⟨h1, h2, h3⟩ := da_ok h
      obtain ⟨h4, h5, h6⟩ := tx_ok (l := s.l) h1
      refine ⟨gtV (getR s.l), gtV (getD (gtL s.l (getR s.l))), h4, ?_, fun h => (by cases h), fun h => (by cases h), val_len h6, h3, fun _ _ => ?_⟩
      · show s.l = fieldL (gtV (getR s.l)) ++ (fieldL (gtV (getD (gtL s.l (getR s.l)))) ++ gtL (gtL s.l (getR s.l)) (getD (gtL s.l (getR s.l))))
        have h2' : gtL s.l (getR s.l) = fieldL (gtV (getD (gtL s.l (getR s.l)))) ++ gtL (gtL s.l (getR s.l)) (getD (gtL s.l (getR s.l))) := h2
        rw [← h2']
        exact h5
      · simp only [psPassT, psUserT, psHas, Pk.s_hasUser, Pk.s_hasPass, Pk.s_user, Pk.s_pass, ha, hb]
def conP (lev : Int) (cl : Bool) (keep : Int) (client : List UInt8) (hw : Bool) (wt wl : List UInt8) (wq : Int) (wr hu hp : Bool) (user pass : List UInt8) : Pk :=
  ⟨1, false, 0, false, 0, [], [], lev, cl, keep, client, hw, wt, wl, wq, wr, hu, hp, user, pass, false, 0, []⟩
theorem con_got {l : List UInt8} (h : (psCon ⟨l, false, zPk.s_ty 1⟩).f = false) (hl : (psCon ⟨l, false, zPk.s_ty 1⟩).l = []) : Got 1 0 l (psCon ⟨l, false, zPk.s_ty 1⟩).p [] := by
  unfold psCon at h hl ⊢
  obtain ⟨s0, e0⟩ : ∃ s0 : Ps, s0 = ⟨l, false, zPk.s_ty 1⟩ := ⟨_, rfl⟩
  rw [← e0] at h hl ⊢
  obtain ⟨s1, e1⟩ : ∃ s1 : Ps, s1 = psName s0 := ⟨_, rfl⟩
  obtain ⟨s2, e2⟩ : ∃ s2 : Ps, s2 = psLevel s1 := ⟨_, rfl⟩
  obtain ⟨s3, e3⟩ : ∃ s3 : Ps, s3 = psFlag s2 := ⟨_, rfl⟩
  obtain ⟨s4, e4⟩ : ∃ s4 : Ps, s4 = psKeep s3 := ⟨_, rfl⟩
  obtain ⟨s5, e5⟩ : ∃ s5 : Ps, s5 = psClient s4 := ⟨_, rfl⟩
  obtain ⟨c, ec⟩ : ∃ c : Int, c = byV s2.l := ⟨_, rfl⟩
  obtain ⟨s6, e6⟩ : ∃ s6 : Ps, s6 = psWill c s5 := ⟨_, rfl⟩
  rw [← e1, ← e2, ← ec, ← e3, ← e4, ← e5, ← e6] at h hl ⊢
  obtain ⟨us, pa, f6, l6, n6a, n6b, b6a, b6b, p6⟩ := login_ok h
  rw [e6] at f6
  obtain ⟨wt, wl, f5, l5, n5, b5a, b5b, p5⟩ := will_ok f6
  rw [← e6] at f6 l5 p5
  have f5' : gtF s4.f (getR s4.l) = false := by rw [e5] at f5; exact f5
  obtain ⟨f4, l4, v4⟩ := tx_ok f5'
  have f4' : woF s3.l s3.f = false := by rw [e4] at f4; exact f4
  obtain ⟨f3, l3⟩ := wo_ok f4'
  have f3' : (psFlag s2).f = false := by rw [← e3]; exact f3
  obtain ⟨f2, l2, r2, p2⟩ := flag_ok f3'
  rw [← e3, ← ec] at l2 p2
  rw [← ec] at r2
  have f2' : byF s1.l s1.f = false := by rw [e2] at f2; exact f2
  obtain ⟨f1, l1, b1a, b1b⟩ := by_ok f2'
  have f1' : (psName s0).f = false := by rw [← e1]; exact f1
  obtain ⟨_, l0, p0⟩ := name_ok f1'
  rw [← e1] at l0 p0
  have bc := by_bd s2.l
  rw [← ec] at bc
  have bk := wo_bd s3.l
  have m5 : s5.l = gtL s4.l (getR s4.l) := by rw [e5]; rfl
  have m4 : s4.l = woL s3.l := by rw [e4]; rfl
  have m2 : s2.l = s1.l.tail := by rw [e2]; rfl
  have q5 : s5.p = s4.p.s_client (gtV (getR s4.l)) := by rw [e5]; rfl
  have q4 : s4.p = s3.p.s_keep (woV s3.l) := by rw [e4]; rfl
  have q2 : s2.p = s1.p.s_level (byV s1.l) := by rw [e2]; rfl
  have m0 : s0.l = l := by rw [e0]
  have q0 : s0.p = zPk.s_ty 1 := by rw [e0]
  have w5 : s5.p = (((((zPk.s_ty 1).s_level (byV s1.l)).s_clean (bitB c 2)).s_keep (woV s3.l)).s_client (gtV (getR s4.l))) := by rw [q5, q4, p2, q2, p0, q0]
  have w6 := p5 (by rw [w5]; rfl) (by rw [w5]; rfl)
  have w7 := p6 (by rw [w6, w5]; rfl) (by rw [w6, w5]; rfl)
  have hp : (psLogin c s6).p = conP (byV s1.l) (bitB c 2) (woV s3.l) (gtV (getR s4.l)) (bitB c 4) wt wl (c / 8 % 4) (bitB c 32) (bitB c 128) (bitB c 64) us pa := by
    rw [w7, w6, w5]; rfl
  rw [hp]
  rw [hl, List.append_nil] at l6
  rw [← m5] at l4
  rw [← m4] at l3
  rw [← m2] at l1
  rw [m0] at l0
  have hcfl := cfl_of bc.1 bc.2 r2
  have hall : l = fieldL nameL ++ (toB (byV s1.l) :: (toB c :: (wordL (woV s3.l) ++ (fieldL (gtV (getR s4.l)) ++ ((if bitB c 4 then fieldL wt ++ fieldL wl else []) ++ ((if bitB c 128 then fieldL us else []) ++ (if bitB c 64 then fieldL pa else []))))))) := by
    rw [← l6, ← l5, ← l4, ← l3, ← l2, ← l1]; exact l0
  have hlen := congrArg List.length hall
  simp only [List.length_append, List.length_cons, fieldL_len, wordL_len] at hlen
  have hw : (if bitB c 4 then fieldL wt ++ fieldL wl else []).length ≥ wt.length + wl.length := by
    cases hb : bitB c 4 with
    | true => rw [if_pos rfl]; simp [fieldL_len]; omega
    | false => obtain ⟨rfl, rfl⟩ := n5 hb; simp
  have hu : (if bitB c 128 then fieldL us else []).length ≥ us.length := by
    cases hb : bitB c 128 with
    | true => rw [if_pos rfl]; simp [fieldL_len]
    | false => rw [n6a hb]; simp
  have hpa : (if bitB c 64 then fieldL pa else []).length ≥ pa.length := by
    cases hb : bitB c 64 with
    | true => rw [if_pos rfl]; simp [fieldL_len]
    | false => rw [n6b hb]; simp
  refine ⟨rfl, ?_, ?_, by simp, ⟨by simp [conP], by simp [conP], by simp [conP], ⟨b1a, b1b⟩, bk, ?_, by simp [conP], by simp⟩, rfl⟩
  · rw [hall]
    show conY (conP ..) = _
    unfold conY
    rw [show cflN (conP (byV s1.l) (bitB c 2) (woV s3.l) (gtV (getR s4.l)) (bitB c 4) wt wl (c / 8 % 4) (bitB c 32) (bitB c 128) (bitB c 64) us pa) = c from hcfl]
    rfl
  · simp only [totB, conP, sumB, List.length_nil]
    omega
  · simp only [conP]; omega
theorem su_got (t : Int) : ∀ (k : Nat) (l : List UInt8) (f : Bool), l.length ≤ k → (suT t l f).1 = false → f = false ∧ subX t (suT t l f).2 = l ∧ sumB (suT t l f).2 ≤ l.length ∧ (suT t l f).2.length * 2 ≤ l.length ∧ ∀ x ∈ (suT t l f).2, 0 ≤ x.2 ∧ x.2 ≤ 255 := by
  intro k
  induction k with
  | zero =>
    intro l f hk h
    obtain rfl : l = [] := List.eq_nil_of_length_eq_zero (by omega)
    rw [suT_nil] at h ⊢
    exact ⟨h, rfl, by simp [sumB], by simp, by simp⟩
  | succ k ih =>
    intro l f hk h
    by_cases hl : l = []
    · subst hl
      rw [suT_nil] at h ⊢
      exact ⟨h, rfl, by simp [sumB], by simp, by simp⟩
    · have hlt := gtL_lt l hl
      by_cases ht : t = 8
      · subst ht
        rw [suT_8 l f hl] at h ⊢
        obtain ⟨h1, h2, h3, h4, h5⟩ := ih _ _ (by rw [List.length_tail]; omega) h
        obtain ⟨h6, h7, h8, h9⟩ := by_ok h1
        obtain ⟨g1, g2, g3⟩ := tx_ok h6
        have hn := congrArg List.length g2
        have hm := congrArg List.length h7
        rw [List.length_append, fieldL_len] at hn
        rw [List.length_cons] at hm
        refine ⟨g1, ?_, ?_, ?_, ?_⟩
        · simp only [subX, if_true]
          rw [h2, List.append_assoc, List.singleton_append, ← h7, ← g2]
        · simp only [sumB]; omega
        · simp only [List.length_cons]; omega
        · intro x hx
          rcases List.mem_cons.1 hx with rfl | hx
          · exact ⟨h8, h9⟩
          · exact h5 x hx
      · rw [suT_10 t l f hl ht] at h ⊢
        obtain ⟨h1, h2, h3, h4, h5⟩ := ih _ _ (by omega) h
        obtain ⟨g1, g2, g3⟩ := tx_ok h1
        have hn := congrArg List.length g2
        rw [List.length_append, fieldL_len] at hn
        refine ⟨g1, ?_, ?_, ?_, ?_⟩
        · simp only [subX, if_neg ht, List.append_nil]
          rw [h2, ← g2]
        · simp only [sumB]; omega
        · simp only [List.length_cons]; omega
        · intro x hx
          rcases List.mem_cons.1 hx with rfl | hx
          · exact nb8 0 rfl
          · exact h5 x hx
theorem ack_got {l : List UInt8} (h : (psAck ⟨l, false, zPk.s_ty 2⟩).f = false) (hl : (psAck ⟨l, false, zPk.s_ty 2⟩).l = []) : Got 2 0 l (psAck ⟨l, false, zPk.s_ty 2⟩).p [] := by
  unfold psAck at h hl ⊢
  by_cases hb : 1 < byV l
  · have e : psAck1 ⟨l, false, zPk.s_ty 2⟩ = ⟨[], true, (zPk.s_ty 2).s_present (byV l != 0)⟩ := by unfold psAck1; rw [if_pos hb]
    rw [e] at h
    simp [psAck2, byF] at h
  · have e : psAck1 ⟨l, false, zPk.s_ty 2⟩ = ⟨l.tail, byF l false, (zPk.s_ty 2).s_present (byV l != 0)⟩ := by unfold psAck1; rw [if_neg hb]
    rw [e] at h hl ⊢
    obtain ⟨h1, h2, h3, h4⟩ := by_ok (l := l.tail) h
    obtain ⟨_, k2, k3, k4⟩ := by_ok (l := l) h1
    have hl' : (l.tail).tail = [] := hl
    rw [hl'] at h2
    have hy : yesI (byV l != 0) 1 = byV l := by
      unfold yesI
      by_cases h0 : byV l = 0
      · simp [h0]
      · have : (byV l != 0) = true := by simpa using h0
        rw [this, if_pos rfl]; omega
    have hall : l = [toB (byV l), toB (byV (l.tail))] := by rw [← h2]; exact k2
    refine ⟨rfl, ?_, ?_, by simp, ⟨nb8 2 rfl, nb8 0 rfl, nb16 0 rfl, nb8 0 rfl, nb16 0 rfl, nb8 0 rfl, ⟨h3, h4⟩, by simp⟩, rfl⟩
    · show [toB (yesI (byV l != 0) 1), toB (byV (l.tail))] = l
      rw [hy]
      exact hall.symm
    · simp [totB, sumB, psAck2, Pk.s_code, Pk.s_present, Pk.s_ty, zPk]
theorem id_got {t : Int} {l : List UInt8} (ht : t = 4 ∨ t = 5 ∨ t = 6 ∨ t = 7 ∨ t = 11) (h : (psId ⟨l, false, zPk.s_ty t⟩).f = false) (hl : (psId ⟨l, false, zPk.s_ty t⟩).l = []) : Got t (if t = 6 then 2 else 0) l (psId ⟨l, false, zPk.s_ty t⟩).p [] := by
  obtain ⟨_, h2⟩ := wo_ok (l := l) h
  have hl' : woL l = [] := hl
  rw [hl', List.append_nil] at h2
  have hb := wo_bd l
  have hty : (psId ⟨l, false, zPk.s_ty t⟩).p.ty = t := rfl
  have hid : (psId ⟨l, false, zPk.s_ty t⟩).p.id = woV l := rfl
  refine ⟨rfl, ?_, ?_, by simp, ⟨by rw [hty]; omega, nb8 0 rfl, hb, nb8 0 rfl, nb16 0 rfl, nb8 0 rfl, nb8 0 rfl, by simp⟩, ?_⟩
  · unfold bodyY bodyL
    rw [hty, hid]
    rcases ht with rfl | rfl | rfl | rfl | rfl <;> exact h2.symm
  · simp [totB, sumB, psId, Pk.s_id, Pk.s_ty, zPk]
  · unfold flagsN
    rw [hty]
    rcases ht with rfl | rfl | rfl | rfl | rfl <;> rfl
theorem no_got {t : Int} {l : List UInt8} (ht : t = 12 ∨ t = 13 ∨ t = 14) (hl : l = []) : Got t 0 l (zPk.s_ty t) [] := by
  subst hl
  have hty : (zPk.s_ty t).ty = t := rfl
  refine ⟨rfl, ?_, ?_, by simp, ⟨by rw [hty]; omega, nb8 0 rfl, nb16 0 rfl, nb8 0 rfl, nb16 0 rfl, nb8 0 rfl, nb8 0 rfl, by simp⟩, ?_⟩
  · unfold bodyY bodyL
    rw [hty]
    rcases ht with rfl | rfl | rfl <;> rfl
  · simp [totB, sumB, Pk.s_ty, zPk]
  · unfold flagsN
    rw [hty]
    rcases ht with rfl | rfl | rfl <;> rfl
theorem codes_got {l : List UInt8} (h : (psCodes (psId ⟨l, false, zPk.s_ty 9⟩)).f = false) : Got 9 0 l (psCodes (psId ⟨l, false, zPk.s_ty 9⟩)).p [] := by
  obtain ⟨_, h2⟩ := wo_ok (l := l) h
  have hb := wo_bd l
  have h3 := congrArg List.length h2
  rw [List.length_append, wordL_len] at h3
  refine ⟨rfl, h2.symm, ?_, by simp, ⟨nb8 9 rfl, nb8 0 rfl, hb, nb8 0 rfl, nb16 0 rfl, nb8 0 rfl, nb8 0 rfl, by simp⟩, rfl⟩
  simp [totB, sumB, psCodes, psId, Pk.s_codes, Pk.s_id, Pk.s_ty, zPk]
  omega
theorem subs_got {t : Int} {l : List UInt8} (ht : t = 8 ∨ t = 10) (h : (psSubs t ⟨l, false, zPk.s_ty t⟩).f = false) : Got t 2 l (psSubs t ⟨l, false, zPk.s_ty t⟩).p (psXs t l false) := by
  have h' : (suT t (woL l) (woF l false)).1 = false := h
  obtain ⟨h1, h2, h3, h4, h5⟩ := su_got t _ (woL l) (woF l false) (Nat.le_refl _) h'
  obtain ⟨_, h6⟩ := wo_ok h1
  have hb := wo_bd l
  have h7 := congrArg List.length h6
  rw [List.length_append, wordL_len] at h7
  have hx : psXs t l false = (suT t (woL l) (woF l false)).2 := by unfold psXs; rw [if_pos ht]
  rw [hx]
  have hty : (psSubs t ⟨l, false, zPk.s_ty t⟩).p.ty = t := rfl
  have hid : (psSubs t ⟨l, false, zPk.s_ty t⟩).p.id = woV l := rfl
  refine ⟨rfl, ?_, ?_, by omega, ⟨by rw [hty]; omega, nb8 0 rfl, hb, nb8 0 rfl, nb16 0 rfl, nb8 0 rfl, nb8 0 rfl, h5⟩, ?_⟩
  · unfold bodyY bodyL
    rw [hty, hid, h2]
    rcases ht with rfl | rfl <;> exact h6.symm
  · have : totB (psSubs t ⟨l, false, zPk.s_ty t⟩).p (suT t (woL l) (woF l false)).2 = sumB (suT t (woL l) (woF l false)).2 := by simp [totB, psSubs, Pk.s_id, Pk.s_ty, zPk]
    omega
  · unfold flagsN
    rw [hty]
    rcases ht with rfl | rfl <;> rfl
theorem pub_got {fl : Int} {l : List UInt8} (f0 : 0 ≤ fl) (f1 : fl < 16) (h : (psPub fl ⟨l, false, zPk.s_ty 3⟩).f = false) : Got 3 fl l (psPub fl ⟨l, false, zPk.s_ty 3⟩).p [] := by
  have hfl := pfl_of f0 f1
  unfold psPub at h ⊢
  by_cases hq : 0 < fl / 2 % 4
  · rw [if_pos hq] at h ⊢
    obtain ⟨h1, h2⟩ := wo_ok (l := gtL l (getR l)) h
    obtain ⟨_, h4, h5⟩ := tx_ok (l := l) h1
    have hb := wo_bd (gtL l (getR l))
    have h6 := congrArg List.length h4
    have h7 := congrArg List.length h2
    rw [List.length_append, fieldL_len] at h6
    rw [List.length_append, wordL_len] at h7
    refine ⟨rfl, ?_, ?_, by simp, ⟨nb8 3 rfl, ?_, hb, nb8 0 rfl, nb16 0 rfl, nb8 0 rfl, nb8 0 rfl, by simp⟩, hfl⟩
    · show pubX (psLoad (psId (psPub1 fl ⟨l, false, zPk.s_ty 3⟩))).p = l
      have : pubX (psLoad (psId (psPub1 fl ⟨l, false, zPk.s_ty 3⟩))).p = fieldL (gtV (getR l)) ++ ((if 0 < fl / 2 % 4 then wordL (woV (gtL l (getR l))) else []) ++ woL (gtL l (getR l))) := rfl
      rw [this, if_pos hq, ← h2, ← h4]
    · simp [totB, sumB, psLoad, psId, psPub1, Pk.s_load, Pk.s_id, Pk.s_dup, Pk.s_qos, Pk.s_ret, Pk.s_topic, Pk.s_ty, zPk]
      omega
    · show 0 ≤ fl / 2 % 4 ∧ fl / 2 % 4 ≤ 255
      omega
  · rw [if_neg hq] at h ⊢
    obtain ⟨_, h4, h5⟩ := tx_ok (l := l) h
    have h6 := congrArg List.length h4
    rw [List.length_append, fieldL_len] at h6
    refine ⟨rfl, ?_, ?_, by simp, ⟨nb8 3 rfl, ?_, nb16 0 rfl, nb8 0 rfl, nb16 0 rfl, nb8 0 rfl, nb8 0 rfl, by simp⟩, hfl⟩
    · show pubX (psLoad (psPub1 fl ⟨l, false, zPk.s_ty 3⟩)).p = l
      have : pubX (psLoad (psPub1 fl ⟨l, false, zPk.s_ty 3⟩)).p = fieldL (gtV (getR l)) ++ ((if 0 < fl / 2 % 4 then wordL 0 else []) ++ gtL l (getR l)) := rfl
      rw [this, if_neg hq, List.nil_append, ← h4]
    · simp [totB, sumB, psLoad, psPub1, Pk.s_load, Pk.s_dup, Pk.s_qos, Pk.s_ret, Pk.s_topic, Pk.s_ty, zPk]
      omega
    · show 0 ≤ fl / 2 % 4 ∧ fl / 2 % 4 ≤ 255
      omega
theorem fir_ty {c : Int} (h : firB c = true) : (c / 16 = 1 ∨ c / 16 = 2 ∨ c / 16 = 3 ∨ c / 16 = 4 ∨ c / 16 = 5 ∨ c / 16 = 6 ∨ c / 16 = 7 ∨ c / 16 = 8 ∨ c / 16 = 9 ∨ c / 16 = 10 ∨ c / 16 = 11 ∨ c / 16 = 12 ∨ c / 16 = 13 ∨ c / 16 = 14) ∧ (c / 16 ≠ 3 → c % 16 = if c / 16 = 6 ∨ c / 16 = 8 ∨ c / 16 = 10 then 2 else 0) := by
  unfold firB at h
  split at h
  · rename_i e
    exact ⟨by omega, fun hh => absurd e hh⟩
  · split at h
    · rename_i e
      exact ⟨by omega, fun _ => by rw [if_pos e]; simpa using h⟩
    · rename_i e
      simp only [Bool.and_eq_true, decide_eq_true_eq, beq_iff_eq] at h
      exact ⟨by omega, fun _ => by rw [if_neg e]; exact h.2⟩
theorem end_got {c : Int} {l : List UInt8} (hc : firB c = true) (h : (endP c l).f = false) (hl : (endP c l).l = []) : Got (c / 16) (c % 16) l (endP c l).p (endX c l) := by
  obtain ⟨ht, hfl⟩ := fir_ty hc
  unfold endP endX at *
  generalize c / 16 = t at *
  have f0 : 0 ≤ c % 16 := by omega
  have f1 : c % 16 < 16 := by omega
  generalize c % 16 = fl at *
  rcases ht with rfl | rfl | rfl | rfl | rfl | rfl | rfl | rfl | rfl | rfl | rfl | rfl | rfl | rfl
  · obtain rfl : fl = 0 := by simpa using hfl
    exact con_got h hl
  · obtain rfl : fl = 0 := by simpa using hfl
    exact ack_got h hl
  · exact pub_got f0 f1 h
  · obtain rfl : fl = 0 := by simpa using hfl
    exact id_got (t := 4) (by decide) h hl
  · obtain rfl : fl = 0 := by simpa using hfl
    exact id_got (t := 5) (by decide) h hl
  · obtain rfl : fl = 2 := by simpa using hfl
    exact id_got (t := 6) (by decide) h hl
  · obtain rfl : fl = 0 := by simpa using hfl
    exact id_got (t := 7) (by decide) h hl
  · obtain rfl : fl = 2 := by simpa using hfl
    exact subs_got (t := 8) (by decide) h
  · obtain rfl : fl = 0 := by simpa using hfl
    exact codes_got h
  · obtain rfl : fl = 2 := by simpa using hfl
    exact subs_got (t := 10) (by decide) h
  · obtain rfl : fl = 0 := by simpa using hfl
    exact id_got (t := 11) (by decide) h hl
  · obtain rfl : fl = 0 := by simpa using hfl
    exact no_got (t := 12) (by decide) hl
  · obtain rfl : fl = 0 := by simpa using hfl
    exact no_got (t := 13) (by decide) hl
  · obtain rfl : fl = 0 := by simpa using hfl
    exact no_got (t := 14) (by decide) hl
end Go.Proofs.YtncgkkhpcgdcaaaDoor
