/-
  read: what it answers, as plain functions.
-/
import Derived.Test.YtncgkkhpcgdcaaaDoorWrInj
set_option linter.unusedSimpArgs false
set_option linter.unusedVariables false
namespace Go.Proofs.YtncgkkhpcgdcaaaDoor

/-- The protocol's name. -/
def nameL : List UInt8 := [77, 81, 84, 84]
def byV : List UInt8 → Int
  | [] => 0
  | b :: _ => b.toNat
def byF (l : List UInt8) (f : Bool) : Bool := l.isEmpty || f
def woV : List UInt8 → Int
  | a :: b :: _ => (a.toNat : Int) * 256 + b.toNat
  | _ => 0
def woL : List UInt8 → List UInt8
  | _ :: _ :: r => r
  | _ => []
def woF : List UInt8 → Bool → Bool
  | _ :: _ :: _, f => f
  | _, _ => true
/-- What a field is taken as, out of what Get or GetData answered. -/
def gtV (g : List UInt8 × Int × Int) : List UInt8 := if g.2.2 = 0 then g.1 else []
def gtL (l : List UInt8) (g : List UInt8 × Int × Int) : List UInt8 := if g.2.2 = 0 then l.drop g.2.1.toNat else []
def gtF (f : Bool) (g : List UInt8 × Int × Int) : Bool := if g.2.2 = 0 then f else true
def bitB (c k : Int) : Bool := decide (c / k % 2 = 1)

theorem getD_ok {l x : List UInt8} {n : Int} (h : getD l = (x, n, 0)) : l = fieldL x ++ l.drop n.toNat ∧ x.length ≤ 65535 ∧ n = x.length + 2 := by
  rcases l with _ | ⟨a, _ | ⟨b, r⟩⟩
  · simp [getD] at h
  · simp [getD] at h
  · simp only [getD] at h
    by_cases hr : (r.length : Int) < a.toNat * 256 + b.toNat
    · rw [if_pos hr] at h
      simp at h
    · rw [if_neg hr] at h
      simp only [Prod.mk.injEq] at h
      obtain ⟨rfl, rfl, _⟩ := h
      have ha := a.toNat_lt
      have hb := b.toNat_lt
      have hl : (r.take (a.toNat * 256 + b.toNat)).length = a.toNat * 256 + b.toNat := by rw [List.length_take]; omega
      refine ⟨?_, by rw [hl]; omega, by rw [hl]; omega⟩
      unfold fieldL
      rw [hl, show (((a.toNat * 256 + b.toNat : Nat) : Int) / 256) = (a.toNat : Int) by omega, show (((a.toNat * 256 + b.toNat : Nat) : Int) % 256) = (b.toNat : Int) by omega, toB_of, toB_of,
        show ((a.toNat : Int) * 256 + b.toNat + 2).toNat = (a.toNat * 256 + b.toNat) + 2 by omega]
      simp
theorem getD_field (x t : List UInt8) (h : x.length ≤ 65535) : getD (fieldL x ++ t) = (x, (x.length : Int) + 2, 0) := by
  have e1 := toB_toNat ((x.length : Int) / 256) (by omega) (by omega)
  have e2 := toB_toNat ((x.length : Int) % 256) (by omega) (by omega)
  have e3 : (toB ((x.length : Int) / 256)).toNat * 256 + (toB ((x.length : Int) % 256)).toNat = x.length := by omega
  show getD (toB ((x.length : Int) / 256) :: toB ((x.length : Int) % 256) :: (x ++ t)) = _
  simp only [getD]
  rw [if_neg (by simp; omega), e3, List.take_left, show ((toB ((x.length : Int) / 256)).toNat : Int) * 256 + (toB ((x.length : Int) % 256)).toNat + 2 = (x.length : Int) + 2 by omega]
theorem getR_ok {l x : List UInt8} {n : Int} (h : getR l = (x, n, 0)) : valB x = true ∧ getD l = (x, n, 0) := by
  unfold getR at h
  by_cases h0 : (getD l).2.2 = 0
  · rw [if_pos h0] at h
    by_cases h1 : valB (getD l).1 = true
    · rw [if_pos h1] at h
      rw [h] at h1
      exact ⟨h1, h⟩
    · rw [if_neg h1] at h
      simp at h
  · rw [if_neg h0] at h
    rw [h] at h0
    exact absurd rfl h0
theorem getR_field (x t : List UInt8) (h : valB x = true) : getR (fieldL x ++ t) = (x, (x.length : Int) + 2, 0) := by
  have h1 := getD_field x t (val_len h)
  unfold getR
  rw [h1]
  simp [h]
theorem da_ok {l : List UInt8} {f : Bool} (h : gtF f (getD l) = false) : f = false ∧ l = fieldL (gtV (getD l)) ++ gtL l (getD l) ∧ (gtV (getD l)).length ≤ 65535 := by
  unfold gtF at h
  split at h
  · rename_i h0
    obtain ⟨h1, h2, _⟩ := getD_ok (l := l) (x := (getD l).1) (n := (getD l).2.1) (by rw [← h0])
    unfold gtV gtL
    rw [if_pos h0, if_pos h0]
    exact ⟨h, h1, h2⟩
  · cases h
theorem tx_ok {l : List UInt8} {f : Bool} (h : gtF f (getR l) = false) : f = false ∧ l = fieldL (gtV (getR l)) ++ gtL l (getR l) ∧ valB (gtV (getR l)) = true := by
  unfold gtF at h
  split at h
  · rename_i h0
    obtain ⟨h1, h2⟩ := getR_ok (l := l) (x := (getR l).1) (n := (getR l).2.1) (by rw [← h0])
    obtain ⟨h3, _⟩ := getD_ok h2
    unfold gtV gtL
    rw [if_pos h0, if_pos h0]
    exact ⟨h, h3, h1⟩
  · cases h
theorem da_field (x t : List UInt8) (f : Bool) (h : x.length ≤ 65535) : gtV (getD (fieldL x ++ t)) = x ∧ gtL (fieldL x ++ t) (getD (fieldL x ++ t)) = t ∧ gtF f (getD (fieldL x ++ t)) = f := by
  rw [getD_field x t h]
  refine ⟨rfl, ?_, rfl⟩
  show (fieldL x ++ t).drop ((x.length : Int) + 2).toNat = t
  rw [show ((x.length : Int) + 2).toNat = (fieldL x).length by rw [fieldL_len]; omega, List.drop_left]
theorem tx_field (x t : List UInt8) (f : Bool) (h : valB x = true) : gtV (getR (fieldL x ++ t)) = x ∧ gtL (fieldL x ++ t) (getR (fieldL x ++ t)) = t ∧ gtF f (getR (fieldL x ++ t)) = f := by
  rw [getR_field x t h]
  refine ⟨rfl, ?_, rfl⟩
  show (fieldL x ++ t).drop ((x.length : Int) + 2).toNat = t
  rw [show ((x.length : Int) + 2).toNat = (fieldL x).length by rw [fieldL_len]; omega, List.drop_left]
theorem by_ok {l : List UInt8} {f : Bool} (h : byF l f = false) : f = false ∧ l = toB (byV l) :: l.tail ∧ 0 ≤ byV l ∧ byV l ≤ 255 := by
  cases l with
  | nil => simp [byF] at h
  | cons b r =>
    have hb := b.toNat_lt
    refine ⟨by simpa [byF] using h, ?_, by show (0 : Int) ≤ b.toNat; omega, by show (b.toNat : Int) ≤ 255; omega⟩
    show b :: r = toB (b.toNat : Int) :: r
    rw [toB_of]
theorem by_bd (l : List UInt8) : 0 ≤ byV l ∧ byV l ≤ 255 := by
  cases l with
  | nil => exact ⟨Int.le_refl _, by decide⟩
  | cons b r =>
    have hb := b.toNat_lt
    exact ⟨by show (0 : Int) ≤ b.toNat; omega, by show (b.toNat : Int) ≤ 255; omega⟩
theorem wo_bd (l : List UInt8) : 0 ≤ woV l ∧ woV l ≤ 65535 := by
  rcases l with _ | ⟨a, _ | ⟨b, r⟩⟩
  · exact ⟨Int.le_refl _, by decide⟩
  · exact ⟨Int.le_refl _, by show (0 : Int) ≤ 65535; decide⟩
  · have ha := a.toNat_lt
    have hb := b.toNat_lt
    exact ⟨by show (0 : Int) ≤ (a.toNat : Int) * 256 + b.toNat; omega, by show (a.toNat : Int) * 256 + b.toNat ≤ 65535; omega⟩
theorem wo_ok {l : List UInt8} {f : Bool} (h : woF l f = false) : f = false ∧ l = wordL (woV l) ++ woL l := by
  rcases l with _ | ⟨a, _ | ⟨b, r⟩⟩
  · simp [woF] at h
  · simp [woF] at h
  · have ha := a.toNat_lt
    have hb := b.toNat_lt
    refine ⟨h, ?_⟩
    show a :: b :: r = toB (((a.toNat : Int) * 256 + b.toNat) / 256) :: toB (((a.toNat : Int) * 256 + b.toNat) % 256) :: r
    rw [show ((a.toNat : Int) * 256 + b.toNat) / 256 = (a.toNat : Int) by omega, show ((a.toNat : Int) * 256 + b.toNat) % 256 = (b.toNat : Int) by omega, toB_of, toB_of]
theorem wo_word (n : Int) (t : List UInt8) (f : Bool) (h0 : 0 ≤ n) (h1 : n ≤ 65535) : woV (wordL n ++ t) = n ∧ woL (wordL n ++ t) = t ∧ woF (wordL n ++ t) f = f := by
  have e1 := toB_toNat (n / 256) (by omega) (by omega)
  have e2 := toB_toNat (n % 256) (by omega) (by omega)
  refine ⟨?_, rfl, rfl⟩
  show ((toB (n / 256)).toNat : Int) * 256 + (toB (n % 256)).toNat = n
  omega
theorem by_byte (n : Int) (t : List UInt8) (f : Bool) (h0 : 0 ≤ n) (h1 : n < 256) : byV (toB n :: t) = n ∧ byF (toB n :: t) f = f := ⟨toB_toNat n h0 h1, by simp [byF]⟩
theorem gtL_lt (l : List UInt8) (h : l ≠ []) : (gtL l (getR l)).length < l.length := by
  have hl : 0 < l.length := List.length_pos_iff.2 h
  unfold gtL
  split
  · rename_i h0
    obtain ⟨_, h2⟩ := getR_ok (l := l) (x := (getR l).1) (n := (getR l).2.1) (by rw [← h0])
    obtain ⟨_, _, h3⟩ := getD_ok h2
    rw [List.length_drop]
    omega
  · simpa using hl
theorem gtL_le (l : List UInt8) (g : List UInt8 × Int × Int) : (gtL l g).length ≤ l.length := by
  unfold gtL
  split
  · rw [List.length_drop]; omega
  · simp
theorem woL_le (l : List UInt8) : (woL l).length ≤ l.length := by
  rcases l with _ | ⟨a, _ | ⟨b, r⟩⟩ <;> simp [woL] <;> omega
theorem gtL_two (l : List UInt8) (h : gtF false (getR l) = false) : (gtL l (getR l)).length + 2 ≤ l.length := by
  obtain ⟨_, h1, _⟩ := tx_ok h
  have := congrArg List.length h1
  rw [List.length_append, fieldL_len] at this
  omega

/-- What a parser has: what is left, whether it has failed, the packet but its Subs. -/
structure Ps where
  l : List UInt8
  f : Bool
  p : Pk
def psName (s : Ps) : Ps := if gtV (getR s.l) = nameL then ⟨gtL s.l (getR s.l), gtF s.f (getR s.l), s.p⟩ else ⟨[], true, s.p⟩
def psLevel (s : Ps) : Ps := ⟨s.l.tail, byF s.l s.f, s.p.s_level (byV s.l)⟩
def psFlag (s : Ps) : Ps := if bitB (byV s.l) 1 then ⟨[], true, s.p.s_clean (bitB (byV s.l) 2)⟩ else ⟨s.l.tail, byF s.l s.f, s.p.s_clean (bitB (byV s.l) 2)⟩
def psKeep (s : Ps) : Ps := ⟨woL s.l, woF s.l s.f, s.p.s_keep (woV s.l)⟩
def psClient (s : Ps) : Ps := ⟨gtL s.l (getR s.l), gtF s.f (getR s.l), s.p.s_client (gtV (getR s.l))⟩
def psWillT (s : Ps) : Ps := ⟨gtL s.l (getR s.l), gtF s.f (getR s.l), s.p.s_wt (gtV (getR s.l))⟩
def psWillL (s : Ps) : Ps := ⟨gtL s.l (getD s.l), gtF s.f (getD s.l), s.p.s_wl (gtV (getD s.l))⟩
def psWill (c : Int) (s : Ps) : Ps := if bitB c 4 then psWillL (psWillT ⟨s.l, s.f, ((s.p.s_hasWill true).s_wq (c / 8 % 4)).s_wr (bitB c 32)⟩) else ⟨s.l, s.f, ((s.p.s_hasWill false).s_wq (c / 8 % 4)).s_wr (bitB c 32)⟩
def psUserT (s : Ps) : Ps := ⟨gtL s.l (getR s.l), gtF s.f (getR s.l), s.p.s_user (gtV (getR s.l))⟩
def psPassT (s : Ps) : Ps := ⟨gtL s.l (getD s.l), gtF s.f (getD s.l), s.p.s_pass (gtV (getD s.l))⟩
def psHas (c : Int) (s : Ps) : Ps := ⟨s.l, s.f, (s.p.s_hasUser (bitB c 128)).s_hasPass (bitB c 64)⟩
def psLogin (c : Int) (s : Ps) : Ps :=
  if bitB c 128 then (if bitB c 64 then psPassT (psUserT (psHas c s)) else psUserT (psHas c s)) else (if bitB c 64 then psPassT (psHas c s) else psHas c s)
def psCon (s : Ps) : Ps := psLogin (byV (psLevel (psName s)).l) (psWill (byV (psLevel (psName s)).l) (psClient (psKeep (psFlag (psLevel (psName s))))))
def psAck1 (s : Ps) : Ps := if 1 < byV s.l then ⟨[], true, s.p.s_present (byV s.l != 0)⟩ else ⟨s.l.tail, byF s.l s.f, s.p.s_present (byV s.l != 0)⟩
def psAck2 (s : Ps) : Ps := ⟨s.l.tail, byF s.l s.f, s.p.s_code (byV s.l)⟩
def psAck (s : Ps) : Ps := psAck2 (psAck1 s)
def psPub1 (fl : Int) (s : Ps) : Ps := ⟨gtL s.l (getR s.l), gtF s.f (getR s.l), (((s.p.s_dup (bitB fl 8)).s_qos (fl / 2 % 4)).s_ret (bitB fl 1)).s_topic (gtV (getR s.l))⟩
def psId (s : Ps) : Ps := ⟨woL s.l, woF s.l s.f, s.p.s_id (woV s.l)⟩
def psLoad (s : Ps) : Ps := ⟨[], s.f, s.p.s_load s.l⟩
def psCodes (s : Ps) : Ps := ⟨[], s.f, s.p.s_codes s.l⟩
def psPub (fl : Int) (s : Ps) : Ps := if 0 < fl / 2 % 4 then psLoad (psId (psPub1 fl s)) else psLoad (psPub1 fl s)
/-- The Subs of what is left: has it failed? which? -/
def suT (t : Int) (l : List UInt8) (f : Bool) : Bool × List (List UInt8 × Int) :=
  if h : l = [] then (f, []) else
    have hlt := gtL_lt l h
    if t = 8 then
      have : ((gtL l (getR l)).tail).length < l.length := by rw [List.length_tail]; omega
      ((suT t ((gtL l (getR l)).tail) (byF (gtL l (getR l)) (gtF f (getR l)))).1, (gtV (getR l), byV (gtL l (getR l))) :: (suT t ((gtL l (getR l)).tail) (byF (gtL l (getR l)) (gtF f (getR l)))).2)
    else ((suT t (gtL l (getR l)) (gtF f (getR l))).1, (gtV (getR l), 0) :: (suT t (gtL l (getR l)) (gtF f (getR l))).2)
termination_by l.length
theorem suT_nil (t : Int) (f : Bool) : suT t [] f = (f, []) := by rw [suT]; rfl
theorem suT_8 (l : List UInt8) (f : Bool) (h : l ≠ []) : suT 8 l f = ((suT 8 ((gtL l (getR l)).tail) (byF (gtL l (getR l)) (gtF f (getR l)))).1, (gtV (getR l), byV (gtL l (getR l))) :: (suT 8 ((gtL l (getR l)).tail) (byF (gtL l (getR l)) (gtF f (getR l)))).2) := by
  rw [suT, dif_neg h, if_pos rfl]
theorem suT_10 (t : Int) (l : List UInt8) (f : Bool) (h : l ≠ []) (ht : t ≠ 8) : suT t l f = ((suT t (gtL l (getR l)) (gtF f (getR l))).1, (gtV (getR l), 0) :: (suT t (gtL l (getR l)) (gtF f (getR l))).2) := by
  rw [suT, dif_neg h, if_neg ht]
def psSubs (t : Int) (s : Ps) : Ps := ⟨[], (suT t (woL s.l) (woF s.l s.f)).1, s.p.s_id (woV s.l)⟩
def psXs (t : Int) (l : List UInt8) (f : Bool) : List (List UInt8 × Int) := if t = 8 ∨ t = 10 then (suT t (woL l) (woF l f)).2 else []
def psBody (t fl : Int) (s : Ps) : Ps :=
  if t = 1 then psCon s else if t = 2 then psAck s else if t = 3 then psPub fl s else if t = 4 ∨ t = 5 ∨ t = 6 ∨ t = 7 ∨ t = 11 then psId s else if t = 8 ∨ t = 10 then psSubs t s else if t = 9 then psCodes (psId s) else s

/-- May a packet's bytes begin so? -/
def firB (c : Int) : Bool := if c / 16 = 3 then decide (c % 16 / 2 % 4 ≤ 2) else if c / 16 = 6 ∨ c / 16 = 8 ∨ c / 16 = 10 then c % 16 == 2 else (decide (1 ≤ c / 16) && decide (c / 16 ≤ 14)) && c % 16 == 0
/-- What cut answers. -/
def cutR : List UInt8 → List UInt8 × Int × Int
  | [] => ([], 0, 2)
  | b :: r => if firB b.toNat then
      if (rdR r).2.2 = 0 then
        if (r.length : Int) - (rdR r).2.1 < (rdR r).1 then ([], 0, 2) else ((r.drop (rdR r).2.1.toNat).take (rdR r).1.toNat, 1 + (rdR r).2.1 + (rdR r).1, 0)
      else ([], 0, (rdR r).2.2)
    else ([], 0, 4)
/-- What otherLevel answers. -/
def othR (c : Int) (l : List UInt8) : Int × Bool :=
  if c / 16 = 1 then
    if gtV (getR l) = nameL then if byF (gtL l (getR l)) false || byV (gtL l (getR l)) == 4 then (0, false) else (byV (gtL l (getR l)), true)
    else (0, false)
  else (0, false)
/-- What the parser has at the end. -/
def endP (c : Int) (l : List UInt8) : Ps := psBody (c / 16) (c % 16) ⟨l, false, zPk.s_ty (c / 16)⟩
def endX (c : Int) (l : List UInt8) : List (List UInt8 × Int) := psXs (c / 16) l false
/-- What parse answers. -/
def parR (c : Int) (l : List UInt8) : Pk × List (List UInt8 × Int) × Bool :=
  if ((endP c l).f || !(endP c l).l.isEmpty) || !decide (0 ≤ restN (endP c l).p (endX c l)) then (zPk, [], false) else ((endP c l).p, endX c l, true)
/-- What Decode answers. -/
def decR (s : List UInt8) : Pk × List (List UInt8 × Int) × Int × Int :=
  if (cutR s).2.2 = 0 then
    if (othR (byV s) (cutR s).1).2 then ((zPk.s_ty 1).s_level (othR (byV s) (cutR s).1).1, [], (cutR s).2.1, 0)
    else if (parR (byV s) (cutR s).1).2.2 then ((parR (byV s) (cutR s).1).1, (parR (byV s) (cutR s).1).2.1, (cutR s).2.1, 0) else (zPk, [], 0, 4)
  else (zPk, [], 0, (cutR s).2.2)
end Go.Proofs.YtncgkkhpcgdcaaaDoor
