/-
  WrMath, WrInj, RdMath, RdInv, RdFwd in one. (By tools/cmerge.py.)
-/
import Derived.Test.YtnaedcennichlaaGreatDoorMa
import Derived.Test.YtnaedcennichlaaGreatDoorTextWalks
import Derived.Test.YtnaedcennichlaaGreatDoorMb
set_option linter.unusedSimpArgs false
set_option linter.unusedVariables false
/-
  Encodings of packets: the plain mathematics of write's statements.
-/
namespace Go.Proofs.YtnaedcennichlaaGreatDoor

def wordL (n : Int) : List UInt8 := [toB (n / 256), toB (n % 256)]
def yesI (b : Bool) (n : Int) : Int := if b then n else 0
def flagsN (p : Pk) : Int := if p.ty = 3 then yesI p.dup 8 + p.qos * 2 + yesI p.ret 1 else if p.ty = 6 ∨ p.ty = 8 ∨ p.ty = 10 then 2 else 0
def cflN (p : Pk) : Int := yesI p.hasUser 128 + yesI p.hasPass 64 + yesI p.wr 32 + p.wq * 8 + yesI p.hasWill 4 + yesI p.clean 2
def willL (p : Pk) : List UInt8 := if p.hasWill then fieldL p.wt ++ fieldL p.wl else []
def userL (p : Pk) : List UInt8 := if p.hasUser then fieldL p.user else []
def passL (p : Pk) : List UInt8 := if p.hasPass then fieldL p.pass else []
def conX (p : Pk) : List UInt8 := fieldL [77, 81, 84, 84] ++ ([4] ++ ([toB (cflN p)] ++ (wordL p.keep ++ (fieldL p.client ++ (willL p ++ (userL p ++ passL p))))))
def pubX (p : Pk) : List UInt8 := fieldL p.topic ++ ((if 0 < p.qos then wordL p.id else []) ++ p.load)
def subX (t : Int) : List (List UInt8 × Int) → List UInt8
  | [] => []
  | x :: r => (fieldL x.1 ++ (if t = 8 then [toB x.2] else [])) ++ subX t r
def bodyL (p : Pk) (xs : List (List UInt8 × Int)) : List UInt8 :=
  if p.ty = 1 then conX p else if p.ty = 2 then [toB (yesI p.present 1), toB p.code] else if p.ty = 3 then pubX p else if p.ty = 8 ∨ p.ty = 10 then wordL p.id ++ subX p.ty xs else if p.ty = 9 then wordL p.id ++ p.codes
  else if p.ty = 12 ∨ p.ty = 13 ∨ p.ty = 14 then [] else wordL p.id
def encL (p : Pk) (xs : List (List UInt8 × Int)) : List UInt8 := toB (p.ty * 16 + flagsN p) :: (lenL 3 (restN p xs) ++ bodyL p xs)

theorem subX_app (t : Int) : ∀ a b, subX t (a ++ b) = subX t a ++ subX t b
  | [], _ => rfl
  | x :: r, b => by simp only [List.cons_append, subX, subX_app t r b, List.append_assoc]
theorem subX_len (t : Int) : ∀ xs, ((subX t xs).length : Int) = sbB (if t = 8 then 1 else 0) xs
  | [] => rfl
  | x :: r => by
    have ih := subX_len t r
    simp only [subX, sbB, List.length_append, fieldL_len, fldB, Int.natCast_add, ih]
    split <;> simp
theorem wordL_len (n : Int) : (wordL n).length = 2 := rfl

/-- What a packet that is right has. -/
structure Ok (p : Pk) (xs : List (List UInt8 × Int)) : Prop where
  take : takeR p xs = true
  bytes : takeB p xs = restN p xs
  zero : (takeL p).s_ty 0 = zPk
  none : takeN p xs.length = 0
  hi : restN p xs ≤ 268435455
  lo : 0 ≤ restN p xs
theorem ok_of {p : Pk} {xs : List (List UInt8 × Int)} (h : 0 ≤ restN p xs) : Ok p xs := by
  have h0 : restN p xs = restN p xs := rfl
  generalize hv : restN p xs = v at h h0
  unfold restN at hv
  obtain ⟨h1, h2⟩ := rest_pos hv h
  simp only [Bool.and_eq_true, decide_eq_true_eq, beq_iff_eq] at h1
  have h3 : restN p xs = v := by
    unfold restN
    exact hv
  exact ⟨h1.1.1, by rw [h2, h3], (eqPk_iff _ _).1 h1.2.1, h1.2.2, by rw [h3, ← h2]; exact h1.1.2, by rw [h3]; exact h⟩
theorem Ok.ty {p : Pk} {xs : List (List UInt8 × Int)} (h : Ok p xs) : p.ty = 1 ∨ p.ty = 2 ∨ p.ty = 3 ∨ p.ty = 4 ∨ p.ty = 5 ∨ p.ty = 6 ∨ p.ty = 7 ∨ p.ty = 8 ∨ p.ty = 9 ∨ p.ty = 10 ∨ p.ty = 11 ∨ p.ty = 12 ∨ p.ty = 13 ∨ p.ty = 14 := by
  have h1 := h.take
  unfold takeR at h1
  by_cases e1 : p.ty = 1
  · simp [e1]
  by_cases e2 : p.ty = 2
  · simp [e2]
  by_cases e3 : p.ty = 3
  · simp [e3]
  by_cases e8 : p.ty = 8
  · simp [e8]
  by_cases e9 : p.ty = 9
  · simp [e9]
  by_cases e10 : p.ty = 10
  · simp [e10]
  by_cases e4 : p.ty = 4 ∨ p.ty = 5 ∨ p.ty = 6 ∨ p.ty = 7 ∨ p.ty = 11
  · rcases e4 with e | e | e | e | e <;> simp [e]
  by_cases e12 : p.ty = 12 ∨ p.ty = 13 ∨ p.ty = 14
  · rcases e12 with e | e | e <;> simp [e]
  simp [e1, e2, e3, e8, e9, e10, e4, e12] at h1
section
variable {p : Pk} {xs : List (List UInt8 × Int)}
theorem Ok.con (h : Ok p xs) (e : p.ty = 1) : conR p = true := by have := h.take; simpa [takeR, e] using this
theorem Ok.pub (h : Ok p xs) (e : p.ty = 3) : pubR p = true := by have := h.take; simpa [takeR, e] using this
theorem Ok.sub (h : Ok p xs) (e : p.ty = 8) : sbR 2 xs = true := by have := h.take; simp [takeR, e] at this; exact this.2
theorem Ok.uns (h : Ok p xs) (e : p.ty = 10) : sbR 0 xs = true := by have := h.take; simp [takeR, e] at this; exact this.2
theorem nm_val {l : List UInt8} (h : nmB l = true) : valB l = true := by
  unfold nmB at h
  simp only [Bool.and_eq_true] at h
  exact h.2.1
theorem val_len {l : List UInt8} (h : valB l = true) : l.length ≤ 65535 := by
  obtain ⟨_, _, _, h⟩ := valB_some l h
  exact h
/-- The texts of a CONNECT that is right. -/
structure Con (p : Pk) : Prop where
  client : valB p.client = true
  wt : p.hasWill = true → valB p.wt = true
  wl : p.hasWill = true → p.wl.length ≤ 65535
  wq : 0 ≤ p.wq → p.wq ≤ 2
  will : p.hasWill = false → p.wt = [] ∧ p.wl = [] ∧ p.wq = 0 ∧ p.wr = false
  user : p.hasUser = true → valB p.user = true
  user0 : p.hasUser = false → p.user = []
  pass : p.hasPass = true → p.pass.length ≤ 65535
  pass0 : p.hasPass = false → p.pass = []
theorem con_of (h : conR p = true) : Con p := by
  simp only [conR, wlB, lgB, Bool.and_eq_true] at h
  obtain ⟨_, h1, h2, ⟨h3, h4⟩, h5⟩ := h
  refine ⟨h1, fun e => ?_, fun e => ?_, fun _ => ?_, fun e => ?_, fun e => ?_, fun e => ?_, fun e => ?_, fun e => ?_⟩
  · rw [if_pos e] at h2
    simp only [Bool.and_eq_true] at h2
    exact nm_val h2.1
  · rw [if_pos e] at h2
    simp only [Bool.and_eq_true, decide_eq_true_eq] at h2
    exact h2.2.1
  · cases e : p.hasWill with
    | true =>
      rw [if_pos e] at h2
      simp only [Bool.and_eq_true, decide_eq_true_eq] at h2
      exact h2.2.2
    | false =>
      rw [if_neg (by simp [e])] at h2
      simp [eqMs] at h2
      omega
  · rw [if_neg (by simp [e])] at h2
    simpa [eqMs, and_assoc] using h2
  · simp only [Bool.or_eq_true, Bool.and_eq_true] at h3
    rcases h3 with h3 | h3
    · rw [List.isEmpty_iff.1 h3]; decide +kernel
    · exact h3.2
  · simp [e] at h3
    exact h3
  · simp only [Bool.or_eq_true, Bool.and_eq_true, decide_eq_true_eq] at h4
    rcases h4 with h4 | h4
    · rw [List.isEmpty_iff.1 h4]; decide
    · exact h4.2
  · simp [e] at h4
    exact h4
theorem sbR_mem {t : Int} (h : sbR t xs = true) : ∀ x ∈ xs, valB x.1 = true ∧ x.2 ≤ t := by
  intro x hx
  simp only [sbR, Bool.and_eq_true, List.all_eq_true] at h
  have := h.2 x hx
  simp only [flB, Bool.and_eq_true, decide_eq_true_eq] at this
  exact ⟨this.1.2.1, this.2⟩
theorem conX_len (p : Pk) : ((conX p).length : Int) = conB p := by
  unfold conX conB willL userL passL fldB
  cases p.hasWill <;> cases p.hasUser <;> cases p.hasPass <;> simp [fieldL_len, wordL_len] <;> omega
theorem pubX_len (p : Pk) : ((pubX p).length : Int) = pubB p := by
  unfold pubX pubB fldB
  split <;> simp [fieldL_len, wordL_len] <;> omega
theorem body_len (h : Ok p xs) : ((bodyL p xs).length : Int) = restN p xs := by
  rw [← h.bytes]
  unfold bodyL takeB
  rcases h.ty with e | e | e | e | e | e | e | e | e | e | e | e | e | e <;> rw [e]
  · exact conX_len p
  · rfl
  · exact pubX_len p
  · rfl
  · rfl
  · rfl
  · rfl
  · simp [wordL_len, subX_len]
  · simp [wordL_len]
  · simp [wordL_len, subX_len]
  · rfl
  · rfl
  · rfl
  · rfl
end
end Go.Proofs.YtnaedcennichlaaGreatDoor

/-
  Encodings of packets begin with one another only if the packets are the same.
-/
namespace Go.Proofs.YtnaedcennichlaaGreatDoor

/-- What the bytes of a packet need of its numbers. -/
structure Num (p : Pk) (xs : List (List UInt8 × Int)) : Prop where
  ty : 0 ≤ p.ty ∧ p.ty ≤ 255
  qos : 0 ≤ p.qos ∧ p.qos ≤ 255
  id : 0 ≤ p.id ∧ p.id ≤ 65535
  level : 0 ≤ p.level ∧ p.level ≤ 255
  keep : 0 ≤ p.keep ∧ p.keep ≤ 65535
  wq : 0 ≤ p.wq ∧ p.wq ≤ 255
  code : 0 ≤ p.code ∧ p.code ≤ 255
  sub : ∀ x ∈ xs, 0 ≤ x.2 ∧ x.2 ≤ 255
theorem Fit.num' {p : Pk} {xs : List (List UInt8 × Int)} (h : Fit p xs) : Num p xs := ⟨h.ty, h.qos, h.id, h.level, h.keep, h.wq, h.code, h.sub⟩
theorem pub_qos {p : Pk} {xs : List (List UInt8 × Int)} (h : Ok p xs) (e : p.ty = 3) : p.qos ≤ 2 ∧ nmB p.topic = true := by
  have := h.pub e
  unfold pubR at this
  simp only [Bool.and_eq_true, decide_eq_true_eq] at this
  exact ⟨this.1.2, this.1.1⟩
theorem flags_bd {p : Pk} {xs : List (List UInt8 × Int)} (h : Ok p xs) (hn : Num p xs) : 0 ≤ flagsN p ∧ flagsN p < 16 := by
  unfold flagsN yesI
  by_cases e : p.ty = 3
  · have := (pub_qos h e).1
    have := hn.qos
    rw [if_pos e]
    split <;> split <;> omega
  · rw [if_neg e]
    split <;> omega
theorem ack_inj {p q : Pk} (hp : (ackL p).s_ty 0 = zPk) (hq : (ackL q).s_ty 0 = zPk) (ht : p.ty = q.ty) (h1 : p.present = q.present) (h2 : p.code = q.code) : p = q := by
  cases p; cases q
  simp only [ackL, Pk.s_present, Pk.s_code, Pk.s_ty, zPk, Pk.mk.injEq] at *
  simp_all
theorem con_inj {p q : Pk} (hp : (conL p).s_ty 0 = zPk) (hq : (conL q).s_ty 0 = zPk) (ht : p.ty = q.ty) (h1 : p.level = q.level) (h2 : p.clean = q.clean) (h3 : p.keep = q.keep) (h4 : p.client = q.client) (h5 : p.hasWill = q.hasWill) (h6 : p.wt = q.wt) (h7 : p.wl = q.wl) (h8 : p.wq = q.wq) (h9 : p.wr = q.wr)
    (h10 : p.hasUser = q.hasUser) (h11 : p.hasPass = q.hasPass) (h12 : p.user = q.user) (h13 : p.pass = q.pass) : p = q := by
  cases p; cases q
  simp only [conL, Pk.s_level, Pk.s_clean, Pk.s_keep, Pk.s_client, Pk.s_hasWill, Pk.s_will, Pk.s_hasUser, Pk.s_user, Pk.s_hasPass, Pk.s_pass, Pk.s_ty, zPk, Pk.mk.injEq] at *
  simp_all
theorem pub_inj {p q : Pk} (hp : (pubL p).s_ty 0 = zPk) (hq : (pubL q).s_ty 0 = zPk) (ht : p.ty = q.ty) (h1 : p.topic = q.topic) (h2 : p.load = q.load) (h3 : p.qos = q.qos) (h4 : p.ret = q.ret) (h5 : 0 < p.qos → p.id = q.id) (h6 : p.dup = q.dup) : p = q := by
  by_cases h0 : 0 < p.qos
  · rw [pubL_pos p h0] at hp
    rw [pubL_pos q (by omega)] at hq
    have h7 := h5 h0
    clear h5 h0
    cases p; cases q
    simp only [Pk.s_id, Pk.s_dup, Pk.s_topic, Pk.s_load, Pk.s_qos, Pk.s_ret, Pk.s_ty, zPk, Pk.mk.injEq] at *
    simp_all
  · rw [pubL_neg p h0] at hp
    rw [pubL_neg q (by omega)] at hq
    clear h5 h0
    cases p; cases q
    simp only [Pk.s_id, Pk.s_dup, Pk.s_topic, Pk.s_load, Pk.s_qos, Pk.s_ret, Pk.s_ty, zPk, Pk.mk.injEq] at *
    simp_all
theorem id_inj {p q : Pk} (hp : (p.s_id 0).s_ty 0 = zPk) (hq : (q.s_id 0).s_ty 0 = zPk) (ht : p.ty = q.ty) (h1 : p.id = q.id) : p = q := by
  cases p; cases q
  simp only [Pk.s_id, Pk.s_ty, zPk, Pk.mk.injEq] at *
  simp_all
theorem cd_inj {p q : Pk} (hp : ((p.s_id 0).s_codes []).s_ty 0 = zPk) (hq : ((q.s_id 0).s_codes []).s_ty 0 = zPk) (ht : p.ty = q.ty) (h1 : p.id = q.id) (h2 : p.codes = q.codes) : p = q := by
  cases p; cases q
  simp only [Pk.s_id, Pk.s_codes, Pk.s_ty, zPk, Pk.mk.injEq] at *
  simp_all
theorem no_inj {p q : Pk} (hp : p.s_ty 0 = zPk) (hq : q.s_ty 0 = zPk) (ht : p.ty = q.ty) : p = q := by
  cases p; cases q
  simp only [Pk.s_ty, zPk, Pk.mk.injEq] at *
  simp_all
theorem nil_of {xs : List (List UInt8 × Int)} {p : Pk} (h : takeN p xs.length = 0) (h8 : p.ty ≠ 8) (h10 : p.ty ≠ 10) : xs = [] := by
  simp [takeN, h8, h10] at h
  exact h
theorem cfl_bd {p : Pk} (h1 : 0 ≤ p.wq) (h2 : p.wq ≤ 2) : 0 ≤ cflN p ∧ cflN p < 256 := by
  unfold cflN yesI
  split <;> split <;> split <;> split <;> split <;> omega
end Go.Proofs.YtnaedcennichlaaGreatDoor

/-
  read: what it answers, as plain functions.
-/
namespace Go.Proofs.YtnaedcennichlaaGreatDoor

/-- The protocol's name. -/
def nameL : List UInt8 := [77, 81, 84, 84]
def byV : List UInt8 → Int
  | [] => 0
  | b :: _ => b.toNat
def byF (l : List UInt8) (f : Bool) : Bool := l.isEmpty || f
def woV : List UInt8 → Int
  | a :: b :: _ => (a.toNat : Int) * 256 + b.toNat
  | _ => 0
def woL : List UInt8 → List UInt8
  | _ :: _ :: r => r
  | _ => []
def woF : List UInt8 → Bool → Bool
  | _ :: _ :: _, f => f
  | _, _ => true
/-- What a field is taken as, out of what Get or GetData answered. -/
def gtV (g : List UInt8 × Int × Int) : List UInt8 := if g.2.2 = 0 then g.1 else []
def gtL (l : List UInt8) (g : List UInt8 × Int × Int) : List UInt8 := if g.2.2 = 0 then l.drop g.2.1.toNat else []
def gtF (f : Bool) (g : List UInt8 × Int × Int) : Bool := if g.2.2 = 0 then f else true
def bitB (c k : Int) : Bool := decide (c / k % 2 = 1)

theorem getD_ok {l x : List UInt8} {n : Int} (h : getD l = (x, n, 0)) : l = fieldL x ++ l.drop n.toNat ∧ x.length ≤ 65535 ∧ n = x.length + 2 := by
  rcases l with _ | ⟨a, _ | ⟨b, r⟩⟩
  · simp [getD] at h
  · simp [getD] at h
  · simp only [getD] at h
    by_cases hr : (r.length : Int) < a.toNat * 256 + b.toNat
    · rw [if_pos hr] at h
      simp at h
    · rw [if_neg hr] at h
      simp only [Prod.mk.injEq] at h
      obtain ⟨rfl, rfl, _⟩ := h
      have ha := a.toNat_lt
      have hb := b.toNat_lt
      have hl : (r.take (a.toNat * 256 + b.toNat)).length = a.toNat * 256 + b.toNat := by rw [List.length_take]; omega
      refine ⟨?_, by rw [hl]; omega, by rw [hl]; omega⟩
      unfold fieldL
      rw [hl, show (((a.toNat * 256 + b.toNat : Nat) : Int) / 256) = (a.toNat : Int) by omega, show (((a.toNat * 256 + b.toNat : Nat) : Int) % 256) = (b.toNat : Int) by omega, toB_of, toB_of,
        show ((a.toNat : Int) * 256 + b.toNat + 2).toNat = (a.toNat * 256 + b.toNat) + 2 by omega]
      simp
theorem getD_field (x t : List UInt8) (h : x.length ≤ 65535) : getD (fieldL x ++ t) = (x, (x.length : Int) + 2, 0) := by
  have e1 := toB_toNat ((x.length : Int) / 256) (by omega) (by omega)
  have e2 := toB_toNat ((x.length : Int) % 256) (by omega) (by omega)
  have e3 : (toB ((x.length : Int) / 256)).toNat * 256 + (toB ((x.length : Int) % 256)).toNat = x.length := by omega
  show getD (toB ((x.length : Int) / 256) :: toB ((x.length : Int) % 256) :: (x ++ t)) = _
  simp only [getD]
  rw [if_neg (by simp; omega), e3, List.take_left, show ((toB ((x.length : Int) / 256)).toNat : Int) * 256 + (toB ((x.length : Int) % 256)).toNat + 2 = (x.length : Int) + 2 by omega]
theorem getR_ok {l x : List UInt8} {n : Int} (h : getR l = (x, n, 0)) : valB x = true ∧ getD l = (x, n, 0) := by
  unfold getR at h
  by_cases h0 : (getD l).2.2 = 0
  · rw [if_pos h0] at h
    by_cases h1 : valB (getD l).1 = true
    · rw [if_pos h1] at h
      rw [h] at h1
      exact ⟨h1, h⟩
    · rw [if_neg h1] at h
      simp at h
  · rw [if_neg h0] at h
    rw [h] at h0
    exact absurd rfl h0
theorem getR_field (x t : List UInt8) (h : valB x = true) : getR (fieldL x ++ t) = (x, (x.length : Int) + 2, 0) := by
  have h1 := getD_field x t (val_len h)
  unfold getR
  rw [h1]
  simp [h]
theorem da_ok {l : List UInt8} {f : Bool} (h : gtF f (getD l) = false) : f = false ∧ l = fieldL (gtV (getD l)) ++ gtL l (getD l) ∧ (gtV (getD l)).length ≤ 65535 := by
  unfold gtF at h
  split at h
  · rename_i h0
    obtain ⟨h1, h2, _⟩ := getD_ok (l := l) (x := (getD l).1) (n := (getD l).2.1) (by rw [← h0])
    unfold gtV gtL
    rw [if_pos h0, if_pos h0]
    exact ⟨h, h1, h2⟩
  · cases h
theorem tx_ok {l : List UInt8} {f : Bool} (h : gtF f (getR l) = false) : f = false ∧ l = fieldL (gtV (getR l)) ++ gtL l (getR l) ∧ valB (gtV (getR l)) = true := by
  unfold gtF at h
  split at h
  · rename_i h0
    obtain ⟨h1, h2⟩ := getR_ok (l := l) (x := (getR l).1) (n := (getR l).2.1) (by rw [← h0])
    obtain ⟨h3, _⟩ := getD_ok h2
    unfold gtV gtL
    rw [if_pos h0, if_pos h0]
    exact ⟨h, h3, h1⟩
  · cases h
theorem da_field (x t : List UInt8) (f : Bool) (h : x.length ≤ 65535) : gtV (getD (fieldL x ++ t)) = x ∧ gtL (fieldL x ++ t) (getD (fieldL x ++ t)) = t ∧ gtF f (getD (fieldL x ++ t)) = f := by
  rw [getD_field x t h]
  refine ⟨rfl, ?_, rfl⟩
  show (fieldL x ++ t).drop ((x.length : Int) + 2).toNat = t
  rw [show ((x.length : Int) + 2).toNat = (fieldL x).length by rw [fieldL_len]; omega, List.drop_left]
theorem tx_field (x t : List UInt8) (f : Bool) (h : valB x = true) : gtV (getR (fieldL x ++ t)) = x ∧ gtL (fieldL x ++ t) (getR (fieldL x ++ t)) = t ∧ gtF f (getR (fieldL x ++ t)) = f := by
  rw [getR_field x t h]
  refine ⟨rfl, ?_, rfl⟩
  show (fieldL x ++ t).drop ((x.length : Int) + 2).toNat = t
  rw [show ((x.length : Int) + 2).toNat = (fieldL x).length by rw [fieldL_len]; omega, List.drop_left]
theorem by_ok {l : List UInt8} {f : Bool} (h : byF l f = false) : f = false ∧ l = toB (byV l) :: l.tail ∧ 0 ≤ byV l ∧ byV l ≤ 255 := by
  cases l with
  | nil => simp [byF] at h
  | cons b r =>
    have hb := b.toNat_lt
    refine ⟨by simpa [byF] using h, ?_, by show (0 : Int) ≤ b.toNat; omega, by show (b.toNat : Int) ≤ 255; omega⟩
    show b :: r = toB (b.toNat : Int) :: r
    rw [toB_of]
theorem by_bd (l : List UInt8) : 0 ≤ byV l ∧ byV l ≤ 255 := by
  cases l with
  | nil => exact ⟨Int.le_refl _, by decide⟩
  | cons b r =>
    have hb := b.toNat_lt
    exact ⟨by show (0 : Int) ≤ b.toNat; omega, by show (b.toNat : Int) ≤ 255; omega⟩
theorem wo_bd (l : List UInt8) : 0 ≤ woV l ∧ woV l ≤ 65535 := by
  rcases l with _ | ⟨a, _ | ⟨b, r⟩⟩
  · exact ⟨Int.le_refl _, by decide⟩
  · exact ⟨Int.le_refl _, by show (0 : Int) ≤ 65535; decide⟩
  · have ha := a.toNat_lt
    have hb := b.toNat_lt
    exact ⟨by show (0 : Int) ≤ (a.toNat : Int) * 256 + b.toNat; omega, by show (a.toNat : Int) * 256 + b.toNat ≤ 65535; omega⟩
theorem wo_ok {l : List UInt8} {f : Bool} (h : woF l f = false) : f = false ∧ l = wordL (woV l) ++ woL l := by
  rcases l with _ | ⟨a, _ | ⟨b, r⟩⟩
  · simp [woF] at h
  · simp [woF] at h
  · have ha := a.toNat_lt
    have hb := b.toNat_lt
    refine ⟨h, ?_⟩
    show a :: b :: r = toB (((a.toNat : Int) * 256 + b.toNat) / 256) :: toB (((a.toNat : Int) * 256 + b.toNat) % 256) :: r
    rw [show ((a.toNat : Int) * 256 + b.toNat) / 256 = (a.toNat : Int) by omega, show ((a.toNat : Int) * 256 + b.toNat) % 256 = (b.toNat : Int) by omega, toB_of, toB_of]
theorem wo_word (n : Int) (t : List UInt8) (f : Bool) (h0 : 0 ≤ n) (h1 : n ≤ 65535) : woV (wordL n ++ t) = n ∧ woL (wordL n ++ t) = t ∧ woF (wordL n ++ t) f = f := by
  have e1 := toB_toNat (n / 256) (by omega) (by omega)
  have e2 := toB_toNat (n % 256) (by omega) (by omega)
  refine ⟨?_, rfl, rfl⟩
  show ((toB (n / 256)).toNat : Int) * 256 + (toB (n % 256)).toNat = n
  omega
theorem by_byte (n : Int) (t : List UInt8) (f : Bool) (h0 : 0 ≤ n) (h1 : n < 256) : byV (toB n :: t) = n ∧ byF (toB n :: t) f = f := ⟨toB_toNat n h0 h1, by simp [byF]⟩
theorem gtL_lt (l : List UInt8) (h : l ≠ []) : (gtL l (getR l)).length < l.length := by
  have hl : 0 < l.length := List.length_pos_iff.2 h
  unfold gtL
  split
  · rename_i h0
    obtain ⟨_, h2⟩ := getR_ok (l := l) (x := (getR l).1) (n := (getR l).2.1) (by rw [← h0])
    obtain ⟨_, _, h3⟩ := getD_ok h2
    rw [List.length_drop]
    omega
  · simpa using hl
theorem gtL_le (l : List UInt8) (g : List UInt8 × Int × Int) : (gtL l g).length ≤ l.length := by
  unfold gtL
  split
  · rw [List.length_drop]; omega
  · simp
theorem woL_le (l : List UInt8) : (woL l).length ≤ l.length := by
  rcases l with _ | ⟨a, _ | ⟨b, r⟩⟩ <;> simp [woL] <;> omega
/-- What a parser has: what is left, whether it has failed, the packet but its Subs. -/
structure Ps where
  l : List UInt8
  f : Bool
  p : Pk
def psName (s : Ps) : Ps := if gtV (getR s.l) = nameL then ⟨gtL s.l (getR s.l), gtF s.f (getR s.l), s.p⟩ else ⟨[], true, s.p⟩
def psLevel (s : Ps) : Ps := ⟨s.l.tail, byF s.l s.f, s.p.s_level (byV s.l)⟩
def psFlag (s : Ps) : Ps := if bitB (byV s.l) 1 then ⟨[], true, s.p.s_clean (bitB (byV s.l) 2)⟩ else ⟨s.l.tail, byF s.l s.f, s.p.s_clean (bitB (byV s.l) 2)⟩
def psKeep (s : Ps) : Ps := ⟨woL s.l, woF s.l s.f, s.p.s_keep (woV s.l)⟩
def psClient (s : Ps) : Ps := ⟨gtL s.l (getR s.l), gtF s.f (getR s.l), s.p.s_client (gtV (getR s.l))⟩
def psWillT (s : Ps) : Ps := ⟨gtL s.l (getR s.l), gtF s.f (getR s.l), s.p.s_wt (gtV (getR s.l))⟩
def psWillL (s : Ps) : Ps := ⟨gtL s.l (getD s.l), gtF s.f (getD s.l), s.p.s_wl (gtV (getD s.l))⟩
def psWill (c : Int) (s : Ps) : Ps := if bitB c 4 then psWillL (psWillT ⟨s.l, s.f, ((s.p.s_hasWill true).s_wq (c / 8 % 4)).s_wr (bitB c 32)⟩) else ⟨s.l, s.f, ((s.p.s_hasWill false).s_wq (c / 8 % 4)).s_wr (bitB c 32)⟩
def psUserT (s : Ps) : Ps := ⟨gtL s.l (getR s.l), gtF s.f (getR s.l), s.p.s_user (gtV (getR s.l))⟩
def psPassT (s : Ps) : Ps := ⟨gtL s.l (getD s.l), gtF s.f (getD s.l), s.p.s_pass (gtV (getD s.l))⟩
def psHas (c : Int) (s : Ps) : Ps := ⟨s.l, s.f, (s.p.s_hasUser (bitB c 128)).s_hasPass (bitB c 64)⟩
def psLogin (c : Int) (s : Ps) : Ps :=
  if bitB c 128 then (if bitB c 64 then psPassT (psUserT (psHas c s)) else psUserT (psHas c s)) else (if bitB c 64 then psPassT (psHas c s) else psHas c s)
def psCon (s : Ps) : Ps := psLogin (byV (psLevel (psName s)).l) (psWill (byV (psLevel (psName s)).l) (psClient (psKeep (psFlag (psLevel (psName s))))))
def psAck1 (s : Ps) : Ps := if 1 < byV s.l then ⟨[], true, s.p.s_present (byV s.l != 0)⟩ else ⟨s.l.tail, byF s.l s.f, s.p.s_present (byV s.l != 0)⟩
def psAck2 (s : Ps) : Ps := ⟨s.l.tail, byF s.l s.f, s.p.s_code (byV s.l)⟩
def psAck (s : Ps) : Ps := psAck2 (psAck1 s)
def psPub1 (fl : Int) (s : Ps) : Ps := ⟨gtL s.l (getR s.l), gtF s.f (getR s.l), (((s.p.s_dup (bitB fl 8)).s_qos (fl / 2 % 4)).s_ret (bitB fl 1)).s_topic (gtV (getR s.l))⟩
def psId (s : Ps) : Ps := ⟨woL s.l, woF s.l s.f, s.p.s_id (woV s.l)⟩
def psLoad (s : Ps) : Ps := ⟨[], s.f, s.p.s_load s.l⟩
def psCodes (s : Ps) : Ps := ⟨[], s.f, s.p.s_codes s.l⟩
def psPub (fl : Int) (s : Ps) : Ps := if 0 < fl / 2 % 4 then psLoad (psId (psPub1 fl s)) else psLoad (psPub1 fl s)
/-- The Subs of what is left: has it failed? which? -/
def suT (t : Int) (l : List UInt8) (f : Bool) : Bool × List (List UInt8 × Int) :=
  if h : l = [] then (f, []) else
    have hlt := gtL_lt l h
    if t = 8 then
      have : ((gtL l (getR l)).tail).length < l.length := by rw [List.length_tail]; omega
      ((suT t ((gtL l (getR l)).tail) (byF (gtL l (getR l)) (gtF f (getR l)))).1, (gtV (getR l), byV (gtL l (getR l))) :: (suT t ((gtL l (getR l)).tail) (byF (gtL l (getR l)) (gtF f (getR l)))).2)
    else ((suT t (gtL l (getR l)) (gtF f (getR l))).1, (gtV (getR l), 0) :: (suT t (gtL l (getR l)) (gtF f (getR l))).2)
termination_by l.length
theorem suT_nil (t : Int) (f : Bool) : suT t [] f = (f, []) := by rw [suT]; rfl
theorem suT_8 (l : List UInt8) (f : Bool) (h : l ≠ []) : suT 8 l f = ((suT 8 ((gtL l (getR l)).tail) (byF (gtL l (getR l)) (gtF f (getR l)))).1, (gtV (getR l), byV (gtL l (getR l))) :: (suT 8 ((gtL l (getR l)).tail) (byF (gtL l (getR l)) (gtF f (getR l)))).2) := by
  rw [suT, dif_neg h, if_pos rfl]
theorem suT_10 (t : Int) (l : List UInt8) (f : Bool) (h : l ≠ []) (ht : t ≠ 8) : suT t l f = ((suT t (gtL l (getR l)) (gtF f (getR l))).1, (gtV (getR l), 0) :: (suT t (gtL l (getR l)) (gtF f (getR l))).2) := by
  rw [suT, dif_neg h, if_neg ht]
def psSubs (t : Int) (s : Ps) : Ps := ⟨[], (suT t (woL s.l) (woF s.l s.f)).1, s.p.s_id (woV s.l)⟩
def psXs (t : Int) (l : List UInt8) (f : Bool) : List (List UInt8 × Int) := if t = 8 ∨ t = 10 then (suT t (woL l) (woF l f)).2 else []
def psBody (t fl : Int) (s : Ps) : Ps :=
  if t = 1 then psCon s else if t = 2 then psAck s else if t = 3 then psPub fl s else if t = 4 ∨ t = 5 ∨ t = 6 ∨ t = 7 ∨ t = 11 then psId s else if t = 8 ∨ t = 10 then psSubs t s else if t = 9 then psCodes (psId s) else s

/-- May a packet's bytes begin so? -/
def firB (c : Int) : Bool := if c / 16 = 3 then decide (c % 16 / 2 % 4 ≤ 2) else if c / 16 = 6 ∨ c / 16 = 8 ∨ c / 16 = 10 then c % 16 == 2 else (decide (1 ≤ c / 16) && decide (c / 16 ≤ 14)) && c % 16 == 0
/-- What cut answers. -/
def cutR : List UInt8 → List UInt8 × Int × Int
  | [] => ([], 0, 2)
  | b :: r => if firB b.toNat then
      if (rdR r).2.2 = 0 then
        if (r.length : Int) - (rdR r).2.1 < (rdR r).1 then ([], 0, 2) else ((r.drop (rdR r).2.1.toNat).take (rdR r).1.toNat, 1 + (rdR r).2.1 + (rdR r).1, 0)
      else ([], 0, (rdR r).2.2)
    else ([], 0, 4)
/-- What otherLevel answers. -/
def othR (c : Int) (l : List UInt8) : Int × Bool :=
  if c / 16 = 1 then
    if gtV (getR l) = nameL then if byF (gtL l (getR l)) false || byV (gtL l (getR l)) == 4 then (0, false) else (byV (gtL l (getR l)), true)
    else (0, false)
  else (0, false)
/-- What the parser has at the end. -/
def endP (c : Int) (l : List UInt8) : Ps := psBody (c / 16) (c % 16) ⟨l, false, zPk.s_ty (c / 16)⟩
def endX (c : Int) (l : List UInt8) : List (List UInt8 × Int) := psXs (c / 16) l false
/-- What parse answers. -/
def parR (c : Int) (l : List UInt8) : Pk × List (List UInt8 × Int) × Bool :=
  if ((endP c l).f || !(endP c l).l.isEmpty) || !decide (0 ≤ restN (endP c l).p (endX c l)) then (zPk, [], false) else ((endP c l).p, endX c l, true)
/-- What Decode answers. -/
def decR (s : List UInt8) : Pk × List (List UInt8 × Int) × Int × Int :=
  if (cutR s).2.2 = 0 then
    if (othR (byV s) (cutR s).1).2 then ((zPk.s_ty 1).s_level (othR (byV s) (cutR s).1).1, [], (cutR s).2.1, 0)
    else if (parR (byV s) (cutR s).1).2.2 then ((parR (byV s) (cutR s).1).1, (parR (byV s) (cutR s).1).2.1, (cutR s).2.1, 0) else (zPk, [], 0, 4)
  else (zPk, [], 0, (cutR s).2.2)
end Go.Proofs.YtnaedcennichlaaGreatDoor

/-
  read: what the parser takes is what stands there, and what a packet's bytes are is taken as the packet.
-/
namespace Go.Proofs.YtnaedcennichlaaGreatDoor

/-! Bits -/
theorem cfl_all : ∀ n : Fin 256, bitB (n.val : Int) 1 = false → yesI (bitB (n.val : Int) 128) 128 + yesI (bitB (n.val : Int) 64) 64 + yesI (bitB (n.val : Int) 32) 32 + (n.val : Int) / 8 % 4 * 8 + yesI (bitB (n.val : Int) 4) 4 + yesI (bitB (n.val : Int) 2) 2 = (n.val : Int) := by decide +kernel
theorem cfl_of {c : Int} (h0 : 0 ≤ c) (h1 : c ≤ 255) (h : bitB c 1 = false) : yesI (bitB c 128) 128 + yesI (bitB c 64) 64 + yesI (bitB c 32) 32 + c / 8 % 4 * 8 + yesI (bitB c 4) 4 + yesI (bitB c 2) 2 = c := by
  have := cfl_all ⟨c.toNat, by omega⟩
  rw [show ((⟨c.toNat, by omega⟩ : Fin 256).val : Int) = c from by show (c.toNat : Int) = c; omega] at this
  exact this h
theorem pfl_all : ∀ n : Fin 16, yesI (bitB (n.val : Int) 8) 8 + (n.val : Int) / 2 % 4 * 2 + yesI (bitB (n.val : Int) 1) 1 = (n.val : Int) := by decide +kernel
theorem pfl_of {c : Int} (h0 : 0 ≤ c) (h1 : c < 16) : yesI (bitB c 8) 8 + c / 2 % 4 * 2 + yesI (bitB c 1) 1 = c := by
  have := pfl_all ⟨c.toNat, by omega⟩
  rw [show ((⟨c.toNat, by omega⟩ : Fin 16).val : Int) = c from by show (c.toNat : Int) = c; omega] at this
  exact this
theorem cbits_all : ∀ (a b c d e : Bool) (q : Fin 3), bitB (yesI a 128 + yesI b 64 + yesI c 32 + (q.val : Int) * 8 + yesI d 4 + yesI e 2) 1 = false ∧ bitB (yesI a 128 + yesI b 64 + yesI c 32 + (q.val : Int) * 8 + yesI d 4 + yesI e 2) 2 = e ∧ bitB (yesI a 128 + yesI b 64 + yesI c 32 + (q.val : Int) * 8 + yesI d 4 + yesI e 2) 4 = d
    ∧ (yesI a 128 + yesI b 64 + yesI c 32 + (q.val : Int) * 8 + yesI d 4 + yesI e 2) / 8 % 4 = (q.val : Int) ∧ bitB (yesI a 128 + yesI b 64 + yesI c 32 + (q.val : Int) * 8 + yesI d 4 + yesI e 2) 32 = c ∧ bitB (yesI a 128 + yesI b 64 + yesI c 32 + (q.val : Int) * 8 + yesI d 4 + yesI e 2) 64 = b
    ∧ bitB (yesI a 128 + yesI b 64 + yesI c 32 + (q.val : Int) * 8 + yesI d 4 + yesI e 2) 128 = a := by decide +kernel
theorem cbits (p : Pk) (h0 : 0 ≤ p.wq) (h1 : p.wq ≤ 2) : bitB (cflN p) 1 = false ∧ bitB (cflN p) 2 = p.clean ∧ bitB (cflN p) 4 = p.hasWill ∧ cflN p / 8 % 4 = p.wq ∧ bitB (cflN p) 32 = p.wr ∧ bitB (cflN p) 64 = p.hasPass ∧ bitB (cflN p) 128 = p.hasUser := by
  have := cbits_all p.hasUser p.hasPass p.wr p.hasWill p.clean ⟨p.wq.toNat, by omega⟩
  rw [show ((⟨p.wq.toNat, by omega⟩ : Fin 3).val : Int) = p.wq from by show (p.wq.toNat : Int) = p.wq; omega] at this
  exact this
theorem pbits_all : ∀ (a b : Bool) (q : Fin 3), bitB (yesI a 8 + (q.val : Int) * 2 + yesI b 1) 8 = a ∧ (yesI a 8 + (q.val : Int) * 2 + yesI b 1) / 2 % 4 = (q.val : Int) ∧ bitB (yesI a 8 + (q.val : Int) * 2 + yesI b 1) 1 = b := by decide +kernel
theorem pbits (p : Pk) (h : p.ty = 3) (h0 : 0 ≤ p.qos) (h1 : p.qos ≤ 2) : bitB (flagsN p) 8 = p.dup ∧ flagsN p / 2 % 4 = p.qos ∧ bitB (flagsN p) 1 = p.ret := by
  have := pbits_all p.dup p.ret ⟨p.qos.toNat, by omega⟩
  rw [show ((⟨p.qos.toNat, by omega⟩ : Fin 3).val : Int) = p.qos from by show (p.qos.toNat : Int) = p.qos; omega] at this
  unfold flagsN
  rw [if_pos h]
  exact this

/-! What the parser takes -/
def conY (p : Pk) : List UInt8 := fieldL nameL ++ ([toB p.level] ++ ([toB (cflN p)] ++ (wordL p.keep ++ (fieldL p.client ++ (willL p ++ (userL p ++ passL p))))))
/-- A packet's rest, whatever its level. -/
def bodyY (p : Pk) (xs : List (List UInt8 × Int)) : List UInt8 := if p.ty = 1 then conY p else bodyL p xs
structure Got (t fl : Int) (l : List UInt8) (p : Pk) (xs : List (List UInt8 × Int)) : Prop where
  ty : p.ty = t
  body : bodyY p xs = l
  tot : totB p xs ≤ l.length
  num : xs.length * 2 ≤ l.length
  nums : Num p xs
  flags : flagsN p = fl

theorem nb8 (n : Int) (h : (decide (0 ≤ n) && decide (n ≤ 255)) = true) : 0 ≤ n ∧ n ≤ 255 := by simpa using h
theorem nb16 (n : Int) (h : (decide (0 ≤ n) && decide (n ≤ 65535)) = true) : 0 ≤ n ∧ n ≤ 65535 := by simpa using h
theorem name_ok {s : Ps} (h : (psName s).f = false) : s.f = false ∧ s.l = fieldL nameL ++ (psName s).l ∧ (psName s).p = s.p := by
  unfold psName at h ⊢
  split at h
  · rename_i hn
    rw [if_pos hn]
    obtain ⟨h1, h2, _⟩ := tx_ok h
    rw [hn] at h2
    exact ⟨h1, h2, rfl⟩
  · cases h
theorem flag_ok {s : Ps} (h : (psFlag s).f = false) : s.f = false ∧ s.l = toB (byV s.l) :: (psFlag s).l ∧ bitB (byV s.l) 1 = false ∧ (psFlag s).p = s.p.s_clean (bitB (byV s.l) 2) := by
  unfold psFlag at h ⊢
  cases hb : bitB (byV s.l) 1 with
  | true => rw [hb, if_pos rfl] at h; cases h
  | false =>
    rw [hb, if_neg (by simp)] at h
    rw [if_neg (by simp)]
    obtain ⟨h1, h2, _⟩ := by_ok h
    exact ⟨h1, h2, rfl, rfl⟩
theorem will_ok {c : Int} {s : Ps} (h : (psWill c s).f = false) : ∃ wt wl, s.f = false ∧ s.l = (if bitB c 4 then fieldL wt ++ fieldL wl else []) ++ (psWill c s).l ∧ (bitB c 4 = false → wt = [] ∧ wl = []) ∧ wt.length ≤ 65535 ∧ wl.length ≤ 65535 ∧
    (s.p.wt = [] → s.p.wl = [] → (psWill c s).p = (s.p.s_hasWill (bitB c 4)).s_will wt wl (c / 8 % 4) (bitB c 32)) := by
  unfold psWill at h ⊢
  cases hb : bitB c 4 with
  | false =>
    rw [hb, if_neg (by simp)] at h
    rw [if_neg (by simp)]
    refine ⟨[], [], h, rfl, fun _ => ⟨rfl, rfl⟩, by decide, by decide, fun h1 h2 => ?_⟩
    show ((s.p.s_hasWill false).s_wq (c / 8 % 4)).s_wr (bitB c 32) = _
    simp only [Pk.s_hasWill, Pk.s_wq, Pk.s_wr, Pk.s_will, h1, h2]
  | true =>
    rw [hb, if_pos rfl] at h
    rw [if_pos rfl]
    obtain ⟨h1, h2, h3⟩ := da_ok h
    obtain ⟨h4, h5, h6⟩ := tx_ok (l := s.l) h1
    refine ⟨gtV (getR s.l), gtV (getD (gtL s.l (getR s.l))), h4, ?_, fun h => (by cases h), val_len h6, h3, fun _ _ => ?_⟩
    · show s.l = (fieldL (gtV (getR s.l)) ++ fieldL (gtV (getD (gtL s.l (getR s.l))))) ++ gtL (gtL s.l (getR s.l)) (getD (gtL s.l (getR s.l)))
      rw [List.append_assoc]
      have h2' : gtL s.l (getR s.l) = fieldL (gtV (getD (gtL s.l (getR s.l)))) ++ gtL (gtL s.l (getR s.l)) (getD (gtL s.l (getR s.l))) := h2
      rw [← h2']
      exact h5
    · simp only [psWillL, psWillT, Pk.s_hasWill, Pk.s_wq, Pk.s_wr, Pk.s_will, Pk.s_wt, Pk.s_wl]
theorem login_ok {c : Int} {s : Ps} (h : (psLogin c s).f = false) : ∃ us pa, s.f = false ∧ s.l = (if bitB c 128 then fieldL us else []) ++ ((if bitB c 64 then fieldL pa else []) ++ (psLogin c s).l) ∧ (bitB c 128 = false → us = []) ∧ (bitB c 64 = false → pa = []) ∧ us.length ≤ 65535 ∧ pa.length ≤ 65535 ∧
    (s.p.user = [] → s.p.pass = [] → (psLogin c s).p = (((s.p.s_hasUser (bitB c 128)).s_hasPass (bitB c 64)).s_user us).s_pass pa) := by
  unfold psLogin at h ⊢
  cases ha : bitB c 128 with
  | false =>
    cases hb : bitB c 64 with
    | false =>
      rw [ha, hb, if_neg (by simp), if_neg (by simp)] at h
      rw [if_neg (by simp), if_neg (by simp)]
      refine ⟨[], [], h, rfl, fun _ => rfl, fun _ => rfl, by decide, by decide, fun h1 h2 => ?_⟩
      simp only [psHas, Pk.s_hasUser, Pk.s_hasPass, Pk.s_user, Pk.s_pass, h1, h2, ha, hb]
    | true =>
      rw [ha, hb, if_neg (by simp), if_pos rfl] at h
      rw [if_neg (by simp), if_pos rfl]
      obtain ⟨h1, h2, h3⟩ := da_ok (l := s.l) h
      refine ⟨[], gtV (getD s.l), h1, h2, fun _ => rfl, fun h => (by cases h), by decide, h3, fun k1 _ => ?_⟩
      simp only [psPassT, psHas, Pk.s_hasUser, Pk.s_hasPass, Pk.s_user, Pk.s_pass, k1, ha, hb]
  | true =>
    cases hb : bitB c 64 with
    | false =>
      rw [ha, hb, if_pos rfl, if_neg (by simp)] at h
      rw [if_pos rfl, if_neg (by simp)]
      obtain ⟨h1, h2, h3⟩ := tx_ok (l := s.l) h
      refine ⟨gtV (getR s.l), [], h1, h2, fun h => (by cases h), fun _ => rfl, val_len h3, by decide, fun _ k2 => ?_⟩
      simp only [psUserT, psHas, Pk.s_hasUser, Pk.s_hasPass, Pk.s_user, Pk.s_pass, k2, ha, hb]
    | true =>
      rw [ha, hb, if_pos rfl, if_pos rfl] at h
      rw [if_pos rfl, if_pos rfl]
      obtain ⟨h1, h2, h3⟩ := da_ok h
      obtain ⟨h4, h5, h6⟩ := tx_ok (l := s.l) h1
      refine ⟨gtV (getR s.l), gtV (getD (gtL s.l (getR s.l))), h4, ?_, fun h => (by cases h), fun h => (by cases h), val_len h6, h3, fun _ _ => ?_⟩
      · show s.l = fieldL (gtV (getR s.l)) ++ (fieldL (gtV (getD (gtL s.l (getR s.l)))) ++ gtL (gtL s.l (getR s.l)) (getD (gtL s.l (getR s.l))))
        have h2' : gtL s.l (getR s.l) = fieldL (gtV (getD (gtL s.l (getR s.l)))) ++ gtL (gtL s.l (getR s.l)) (getD (gtL s.l (getR s.l))) := h2
        rw [← h2']
        exact h5
      · simp only [psPassT, psUserT, psHas, Pk.s_hasUser, Pk.s_hasPass, Pk.s_user, Pk.s_pass, ha, hb]
def conP (lev : Int) (cl : Bool) (keep : Int) (client : List UInt8) (hw : Bool) (wt wl : List UInt8) (wq : Int) (wr hu hp : Bool) (user pass : List UInt8) : Pk :=
  ⟨1, false, 0, false, 0, [], [], lev, cl, keep, client, hw, wt, wl, wq, wr, hu, hp, user, pass, false, 0, []⟩
theorem con_got {l : List UInt8} (h : (psCon ⟨l, false, zPk.s_ty 1⟩).f = false) (hl : (psCon ⟨l, false, zPk.s_ty 1⟩).l = []) : Got 1 0 l (psCon ⟨l, false, zPk.s_ty 1⟩).p [] := by
  unfold psCon at h hl ⊢
  obtain ⟨s0, e0⟩ : ∃ s0 : Ps, s0 = ⟨l, false, zPk.s_ty 1⟩ := ⟨_, rfl⟩
  rw [← e0] at h hl ⊢
  obtain ⟨s1, e1⟩ : ∃ s1 : Ps, s1 = psName s0 := ⟨_, rfl⟩
  obtain ⟨s2, e2⟩ : ∃ s2 : Ps, s2 = psLevel s1 := ⟨_, rfl⟩
  obtain ⟨s3, e3⟩ : ∃ s3 : Ps, s3 = psFlag s2 := ⟨_, rfl⟩
  obtain ⟨s4, e4⟩ : ∃ s4 : Ps, s4 = psKeep s3 := ⟨_, rfl⟩
  obtain ⟨s5, e5⟩ : ∃ s5 : Ps, s5 = psClient s4 := ⟨_, rfl⟩
  obtain ⟨c, ec⟩ : ∃ c : Int, c = byV s2.l := ⟨_, rfl⟩
  obtain ⟨s6, e6⟩ : ∃ s6 : Ps, s6 = psWill c s5 := ⟨_, rfl⟩
  rw [← e1, ← e2, ← ec, ← e3, ← e4, ← e5, ← e6] at h hl ⊢
  obtain ⟨us, pa, f6, l6, n6a, n6b, b6a, b6b, p6⟩ := login_ok h
  rw [e6] at f6
  obtain ⟨wt, wl, f5, l5, n5, b5a, b5b, p5⟩ := will_ok f6
  rw [← e6] at f6 l5 p5
  have f5' : gtF s4.f (getR s4.l) = false := by rw [e5] at f5; exact f5
  obtain ⟨f4, l4, v4⟩ := tx_ok f5'
  have f4' : woF s3.l s3.f = false := by rw [e4] at f4; exact f4
  obtain ⟨f3, l3⟩ := wo_ok f4'
  have f3' : (psFlag s2).f = false := by rw [← e3]; exact f3
  obtain ⟨f2, l2, r2, p2⟩ := flag_ok f3'
  rw [← e3, ← ec] at l2 p2
  rw [← ec] at r2
  have f2' : byF s1.l s1.f = false := by rw [e2] at f2; exact f2
  obtain ⟨f1, l1, b1a, b1b⟩ := by_ok f2'
  have f1' : (psName s0).f = false := by rw [← e1]; exact f1
  obtain ⟨_, l0, p0⟩ := name_ok f1'
  rw [← e1] at l0 p0
  have bc := by_bd s2.l
  rw [← ec] at bc
  have bk := wo_bd s3.l
  have m5 : s5.l = gtL s4.l (getR s4.l) := by rw [e5]; rfl
  have m4 : s4.l = woL s3.l := by rw [e4]; rfl
  have m2 : s2.l = s1.l.tail := by rw [e2]; rfl
  have q5 : s5.p = s4.p.s_client (gtV (getR s4.l)) := by rw [e5]; rfl
  have q4 : s4.p = s3.p.s_keep (woV s3.l) := by rw [e4]; rfl
  have q2 : s2.p = s1.p.s_level (byV s1.l) := by rw [e2]; rfl
  have m0 : s0.l = l := by rw [e0]
  have q0 : s0.p = zPk.s_ty 1 := by rw [e0]
  have w5 : s5.p = (((((zPk.s_ty 1).s_level (byV s1.l)).s_clean (bitB c 2)).s_keep (woV s3.l)).s_client (gtV (getR s4.l))) := by rw [q5, q4, p2, q2, p0, q0]
  have w6 := p5 (by rw [w5]; rfl) (by rw [w5]; rfl)
  have w7 := p6 (by rw [w6, w5]; rfl) (by rw [w6, w5]; rfl)
  have hp : (psLogin c s6).p = conP (byV s1.l) (bitB c 2) (woV s3.l) (gtV (getR s4.l)) (bitB c 4) wt wl (c / 8 % 4) (bitB c 32) (bitB c 128) (bitB c 64) us pa := by
    rw [w7, w6, w5]; rfl
  rw [hp]
  rw [hl, List.append_nil] at l6
  rw [← m5] at l4
  rw [← m4] at l3
  rw [← m2] at l1
  rw [m0] at l0
  have hcfl := cfl_of bc.1 bc.2 r2
  have hall : l = fieldL nameL ++ (toB (byV s1.l) :: (toB c :: (wordL (woV s3.l) ++ (fieldL (gtV (getR s4.l)) ++ ((if bitB c 4 then fieldL wt ++ fieldL wl else []) ++ ((if bitB c 128 then fieldL us else []) ++ (if bitB c 64 then fieldL pa else []))))))) := by
    rw [← l6, ← l5, ← l4, ← l3, ← l2, ← l1]; exact l0
  have hlen := congrArg List.length hall
  simp only [List.length_append, List.length_cons, fieldL_len, wordL_len] at hlen
  have hw : (if bitB c 4 then fieldL wt ++ fieldL wl else []).length ≥ wt.length + wl.length := by
    cases hb : bitB c 4 with
    | true => rw [if_pos rfl]; simp [fieldL_len]; omega
    | false => obtain ⟨rfl, rfl⟩ := n5 hb; simp
  have hu : (if bitB c 128 then fieldL us else []).length ≥ us.length := by
    cases hb : bitB c 128 with
    | true => rw [if_pos rfl]; simp [fieldL_len]
    | false => rw [n6a hb]; simp
  have hpa : (if bitB c 64 then fieldL pa else []).length ≥ pa.length := by
    cases hb : bitB c 64 with
    | true => rw [if_pos rfl]; simp [fieldL_len]
    | false => rw [n6b hb]; simp
  refine ⟨rfl, ?_, ?_, by simp, ⟨by simp [conP], by simp [conP], by simp [conP], ⟨b1a, b1b⟩, bk, ?_, by simp [conP], by simp⟩, rfl⟩
  · rw [hall]
    show conY (conP ..) = _
    unfold conY
    rw [show cflN (conP (byV s1.l) (bitB c 2) (woV s3.l) (gtV (getR s4.l)) (bitB c 4) wt wl (c / 8 % 4) (bitB c 32) (bitB c 128) (bitB c 64) us pa) = c from hcfl]
    rfl
  · simp only [totB, conP, sumB, List.length_nil]
    omega
  · simp only [conP]; omega
theorem su_got (t : Int) : ∀ (k : Nat) (l : List UInt8) (f : Bool), l.length ≤ k → (suT t l f).1 = false → f = false ∧ subX t (suT t l f).2 = l ∧ sumB (suT t l f).2 ≤ l.length ∧ (suT t l f).2.length * 2 ≤ l.length ∧ ∀ x ∈ (suT t l f).2, 0 ≤ x.2 ∧ x.2 ≤ 255 := by
  intro k
  induction k with
  | zero =>
    intro l f hk h
    obtain rfl : l = [] := List.eq_nil_of_length_eq_zero (by omega)
    rw [suT_nil] at h ⊢
    exact ⟨h, rfl, by simp [sumB], by simp, by simp⟩
  | succ k ih =>
    intro l f hk h
    by_cases hl : l = []
    · subst hl
      rw [suT_nil] at h ⊢
      exact ⟨h, rfl, by simp [sumB], by simp, by simp⟩
    · have hlt := gtL_lt l hl
      by_cases ht : t = 8
      · subst ht
        rw [suT_8 l f hl] at h ⊢
        obtain ⟨h1, h2, h3, h4, h5⟩ := ih _ _ (by rw [List.length_tail]; omega) h
        obtain ⟨h6, h7, h8, h9⟩ := by_ok h1
        obtain ⟨g1, g2, g3⟩ := tx_ok h6
        have hn := congrArg List.length g2
        have hm := congrArg List.length h7
        rw [List.length_append, fieldL_len] at hn
        rw [List.length_cons] at hm
        refine ⟨g1, ?_, ?_, ?_, ?_⟩
        · simp only [subX, if_true]
          rw [h2, List.append_assoc, List.singleton_append, ← h7, ← g2]
        · simp only [sumB]; omega
        · simp only [List.length_cons]; omega
        · intro x hx
          rcases List.mem_cons.1 hx with rfl | hx
          · exact ⟨h8, h9⟩
          · exact h5 x hx
      · rw [suT_10 t l f hl ht] at h ⊢
        obtain ⟨h1, h2, h3, h4, h5⟩ := ih _ _ (by omega) h
        obtain ⟨g1, g2, g3⟩ := tx_ok h1
        have hn := congrArg List.length g2
        rw [List.length_append, fieldL_len] at hn
        refine ⟨g1, ?_, ?_, ?_, ?_⟩
        · simp only [subX, if_neg ht, List.append_nil]
          rw [h2, ← g2]
        · simp only [sumB]; omega
        · simp only [List.length_cons]; omega
        · intro x hx
          rcases List.mem_cons.1 hx with rfl | hx
          · exact nb8 0 rfl
          · exact h5 x hx
theorem ack_got {l : List UInt8} (h : (psAck ⟨l, false, zPk.s_ty 2⟩).f = false) (hl : (psAck ⟨l, false, zPk.s_ty 2⟩).l = []) : Got 2 0 l (psAck ⟨l, false, zPk.s_ty 2⟩).p [] := by
  unfold psAck at h hl ⊢
  by_cases hb : 1 < byV l
  · have e : psAck1 ⟨l, false, zPk.s_ty 2⟩ = ⟨[], true, (zPk.s_ty 2).s_present (byV l != 0)⟩ := by unfold psAck1; rw [if_pos hb]
    rw [e] at h
    simp [psAck2, byF] at h
  · have e : psAck1 ⟨l, false, zPk.s_ty 2⟩ = ⟨l.tail, byF l false, (zPk.s_ty 2).s_present (byV l != 0)⟩ := by unfold psAck1; rw [if_neg hb]
    rw [e] at h hl ⊢
    obtain ⟨h1, h2, h3, h4⟩ := by_ok (l := l.tail) h
    obtain ⟨_, k2, k3, k4⟩ := by_ok (l := l) h1
    have hl' : (l.tail).tail = [] := hl
    rw [hl'] at h2
    have hy : yesI (byV l != 0) 1 = byV l := by
      unfold yesI
      by_cases h0 : byV l = 0
      · simp [h0]
      · have : (byV l != 0) = true := by simpa using h0
        rw [this, if_pos rfl]; omega
    have hall : l = [toB (byV l), toB (byV (l.tail))] := by rw [← h2]; exact k2
    refine ⟨rfl, ?_, ?_, by simp, ⟨nb8 2 rfl, nb8 0 rfl, nb16 0 rfl, nb8 0 rfl, nb16 0 rfl, nb8 0 rfl, ⟨h3, h4⟩, by simp⟩, rfl⟩
    · show [toB (yesI (byV l != 0) 1), toB (byV (l.tail))] = l
      rw [hy]
      exact hall.symm
    · simp [totB, sumB, psAck2, Pk.s_code, Pk.s_present, Pk.s_ty, zPk]
theorem id_got {t : Int} {l : List UInt8} (ht : t = 4 ∨ t = 5 ∨ t = 6 ∨ t = 7 ∨ t = 11) (h : (psId ⟨l, false, zPk.s_ty t⟩).f = false) (hl : (psId ⟨l, false, zPk.s_ty t⟩).l = []) : Got t (if t = 6 then 2 else 0) l (psId ⟨l, false, zPk.s_ty t⟩).p [] := by
  obtain ⟨_, h2⟩ := wo_ok (l := l) h
  have hl' : woL l = [] := hl
  rw [hl', List.append_nil] at h2
  have hb := wo_bd l
  have hty : (psId ⟨l, false, zPk.s_ty t⟩).p.ty = t := rfl
  have hid : (psId ⟨l, false, zPk.s_ty t⟩).p.id = woV l := rfl
  refine ⟨rfl, ?_, ?_, by simp, ⟨by rw [hty]; omega, nb8 0 rfl, hb, nb8 0 rfl, nb16 0 rfl, nb8 0 rfl, nb8 0 rfl, by simp⟩, ?_⟩
  · unfold bodyY bodyL
    rw [hty, hid]
    rcases ht with rfl | rfl | rfl | rfl | rfl <;> exact h2.symm
  · simp [totB, sumB, psId, Pk.s_id, Pk.s_ty, zPk]
  · unfold flagsN
    rw [hty]
    rcases ht with rfl | rfl | rfl | rfl | rfl <;> rfl
theorem no_got {t : Int} {l : List UInt8} (ht : t = 12 ∨ t = 13 ∨ t = 14) (hl : l = []) : Got t 0 l (zPk.s_ty t) [] := by
  subst hl
  have hty : (zPk.s_ty t).ty = t := rfl
  refine ⟨rfl, ?_, ?_, by simp, ⟨by rw [hty]; omega, nb8 0 rfl, nb16 0 rfl, nb8 0 rfl, nb16 0 rfl, nb8 0 rfl, nb8 0 rfl, by simp⟩, ?_⟩
  · unfold bodyY bodyL
    rw [hty]
    rcases ht with rfl | rfl | rfl <;> rfl
  · simp [totB, sumB, Pk.s_ty, zPk]
  · unfold flagsN
    rw [hty]
    rcases ht with rfl | rfl | rfl <;> rfl
theorem codes_got {l : List UInt8} (h : (psCodes (psId ⟨l, false, zPk.s_ty 9⟩)).f = false) : Got 9 0 l (psCodes (psId ⟨l, false, zPk.s_ty 9⟩)).p [] := by
  obtain ⟨_, h2⟩ := wo_ok (l := l) h
  have hb := wo_bd l
  have h3 := congrArg List.length h2
  rw [List.length_append, wordL_len] at h3
  refine ⟨rfl, h2.symm, ?_, by simp, ⟨nb8 9 rfl, nb8 0 rfl, hb, nb8 0 rfl, nb16 0 rfl, nb8 0 rfl, nb8 0 rfl, by simp⟩, rfl⟩
  simp [totB, sumB, psCodes, psId, Pk.s_codes, Pk.s_id, Pk.s_ty, zPk]
  omega
theorem subs_got {t : Int} {l : List UInt8} (ht : t = 8 ∨ t = 10) (h : (psSubs t ⟨l, false, zPk.s_ty t⟩).f = false) : Got t 2 l (psSubs t ⟨l, false, zPk.s_ty t⟩).p (psXs t l false) := by
  have h' : (suT t (woL l) (woF l false)).1 = false := h
  obtain ⟨h1, h2, h3, h4, h5⟩ := su_got t _ (woL l) (woF l false) (Nat.le_refl _) h'
  obtain ⟨_, h6⟩ := wo_ok h1
  have hb := wo_bd l
  have h7 := congrArg List.length h6
  rw [List.length_append, wordL_len] at h7
  have hx : psXs t l false = (suT t (woL l) (woF l false)).2 := by unfold psXs; rw [if_pos ht]
  rw [hx]
  have hty : (psSubs t ⟨l, false, zPk.s_ty t⟩).p.ty = t := rfl
  have hid : (psSubs t ⟨l, false, zPk.s_ty t⟩).p.id = woV l := rfl
  refine ⟨rfl, ?_, ?_, by omega, ⟨by rw [hty]; omega, nb8 0 rfl, hb, nb8 0 rfl, nb16 0 rfl, nb8 0 rfl, nb8 0 rfl, h5⟩, ?_⟩
  · unfold bodyY bodyL
    rw [hty, hid, h2]
    rcases ht with rfl | rfl <;> exact h6.symm
  · have : totB (psSubs t ⟨l, false, zPk.s_ty t⟩).p (suT t (woL l) (woF l false)).2 = sumB (suT t (woL l) (woF l false)).2 := by simp [totB, psSubs, Pk.s_id, Pk.s_ty, zPk]
    omega
  · unfold flagsN
    rw [hty]
    rcases ht with rfl | rfl <;> rfl
theorem pub_got {fl : Int} {l : List UInt8} (f0 : 0 ≤ fl) (f1 : fl < 16) (h : (psPub fl ⟨l, false, zPk.s_ty 3⟩).f = false) : Got 3 fl l (psPub fl ⟨l, false, zPk.s_ty 3⟩).p [] := by
  have hfl := pfl_of f0 f1
  unfold psPub at h ⊢
  by_cases hq : 0 < fl / 2 % 4
  · rw [if_pos hq] at h ⊢
    obtain ⟨h1, h2⟩ := wo_ok (l := gtL l (getR l)) h
    obtain ⟨_, h4, h5⟩ := tx_ok (l := l) h1
    have hb := wo_bd (gtL l (getR l))
    have h6 := congrArg List.length h4
    have h7 := congrArg List.length h2
    rw [List.length_append, fieldL_len] at h6
    rw [List.length_append, wordL_len] at h7
    refine ⟨rfl, ?_, ?_, by simp, ⟨nb8 3 rfl, ?_, hb, nb8 0 rfl, nb16 0 rfl, nb8 0 rfl, nb8 0 rfl, by simp⟩, hfl⟩
    · show pubX (psLoad (psId (psPub1 fl ⟨l, false, zPk.s_ty 3⟩))).p = l
      have : pubX (psLoad (psId (psPub1 fl ⟨l, false, zPk.s_ty 3⟩))).p = fieldL (gtV (getR l)) ++ ((if 0 < fl / 2 % 4 then wordL (woV (gtL l (getR l))) else []) ++ woL (gtL l (getR l))) := rfl
      rw [this, if_pos hq, ← h2, ← h4]
    · simp [totB, sumB, psLoad, psId, psPub1, Pk.s_load, Pk.s_id, Pk.s_dup, Pk.s_qos, Pk.s_ret, Pk.s_topic, Pk.s_ty, zPk]
      omega
    · show 0 ≤ fl / 2 % 4 ∧ fl / 2 % 4 ≤ 255
      omega
  · rw [if_neg hq] at h ⊢
    obtain ⟨_, h4, h5⟩ := tx_ok (l := l) h
    have h6 := congrArg List.length h4
    rw [List.length_append, fieldL_len] at h6
    refine ⟨rfl, ?_, ?_, by simp, ⟨nb8 3 rfl, ?_, nb16 0 rfl, nb8 0 rfl, nb16 0 rfl, nb8 0 rfl, nb8 0 rfl, by simp⟩, hfl⟩
    · show pubX (psLoad (psPub1 fl ⟨l, false, zPk.s_ty 3⟩)).p = l
      have : pubX (psLoad (psPub1 fl ⟨l, false, zPk.s_ty 3⟩)).p = fieldL (gtV (getR l)) ++ ((if 0 < fl / 2 % 4 then wordL 0 else []) ++ gtL l (getR l)) := rfl
      rw [this, if_neg hq, List.nil_append, ← h4]
    · simp [totB, sumB, psLoad, psPub1, Pk.s_load, Pk.s_dup, Pk.s_qos, Pk.s_ret, Pk.s_topic, Pk.s_ty, zPk]
      omega
    · show 0 ≤ fl / 2 % 4 ∧ fl / 2 % 4 ≤ 255
      omega
theorem fir_ty {c : Int} (h : firB c = true) : (c / 16 = 1 ∨ c / 16 = 2 ∨ c / 16 = 3 ∨ c / 16 = 4 ∨ c / 16 = 5 ∨ c / 16 = 6 ∨ c / 16 = 7 ∨ c / 16 = 8 ∨ c / 16 = 9 ∨ c / 16 = 10 ∨ c / 16 = 11 ∨ c / 16 = 12 ∨ c / 16 = 13 ∨ c / 16 = 14) ∧ (c / 16 ≠ 3 → c % 16 = if c / 16 = 6 ∨ c / 16 = 8 ∨ c / 16 = 10 then 2 else 0) := by
  unfold firB at h
  split at h
  · rename_i e
    exact ⟨by omega, fun hh => absurd e hh⟩
  · split at h
    · rename_i e
      exact ⟨by omega, fun _ => by rw [if_pos e]; simpa using h⟩
    · rename_i e
      simp only [Bool.and_eq_true, decide_eq_true_eq, beq_iff_eq] at h
      exact ⟨by omega, fun _ => by rw [if_neg e]; exact h.2⟩
theorem end_got {c : Int} {l : List UInt8} (hc : firB c = true) (h : (endP c l).f = false) (hl : (endP c l).l = []) : Got (c / 16) (c % 16) l (endP c l).p (endX c l) := by
  obtain ⟨ht, hfl⟩ := fir_ty hc
  unfold endP endX at *
  generalize c / 16 = t at *
  have f0 : 0 ≤ c % 16 := by omega
  have f1 : c % 16 < 16 := by omega
  generalize c % 16 = fl at *
  rcases ht with rfl | rfl | rfl | rfl | rfl | rfl | rfl | rfl | rfl | rfl | rfl | rfl | rfl | rfl
  · obtain rfl : fl = 0 := by simpa using hfl
    exact con_got h hl
  · obtain rfl : fl = 0 := by simpa using hfl
    exact ack_got h hl
  · exact pub_got f0 f1 h
  · obtain rfl : fl = 0 := by simpa using hfl
    exact id_got (t := 4) (by decide) h hl
  · obtain rfl : fl = 0 := by simpa using hfl
    exact id_got (t := 5) (by decide) h hl
  · obtain rfl : fl = 2 := by simpa using hfl
    exact id_got (t := 6) (by decide) h hl
  · obtain rfl : fl = 0 := by simpa using hfl
    exact id_got (t := 7) (by decide) h hl
  · obtain rfl : fl = 2 := by simpa using hfl
    exact subs_got (t := 8) (by decide) h
  · obtain rfl : fl = 0 := by simpa using hfl
    exact codes_got h
  · obtain rfl : fl = 2 := by simpa using hfl
    exact subs_got (t := 10) (by decide) h
  · obtain rfl : fl = 0 := by simpa using hfl
    exact id_got (t := 11) (by decide) h hl
  · obtain rfl : fl = 0 := by simpa using hfl
    exact no_got (t := 12) (by decide) hl
  · obtain rfl : fl = 0 := by simpa using hfl
    exact no_got (t := 13) (by decide) hl
  · obtain rfl : fl = 0 := by simpa using hfl
    exact no_got (t := 14) (by decide) hl
end Go.Proofs.YtnaedcennichlaaGreatDoor

/-
  read: a packet's bytes are decoded to it; what is decoded has these bytes.
-/
namespace Go.Proofs.YtnaedcennichlaaGreatDoor

theorem name_val : valB nameL = true := by decide +kernel
theorem name_f (t : List UInt8) (f : Bool) (p : Pk) : psName ⟨fieldL nameL ++ t, f, p⟩ = ⟨t, f, p⟩ := by
  obtain ⟨h1, h2, h3⟩ := tx_field nameL t f name_val
  unfold psName
  dsimp only
  rw [if_pos h1, h2, h3]
theorem level_f (v : Int) (t : List UInt8) (f : Bool) (p : Pk) (h0 : 0 ≤ v) (h1 : v < 256) : psLevel ⟨toB v :: t, f, p⟩ = ⟨t, f, p.s_level v⟩ := by
  obtain ⟨h2, h3⟩ := by_byte v t f h0 h1
  unfold psLevel
  dsimp only
  rw [h2, h3]; rfl
theorem flag_f (v : Int) (t : List UInt8) (f : Bool) (p : Pk) (h0 : 0 ≤ v) (h1 : v < 256) (hb : bitB v 1 = false) : psFlag ⟨toB v :: t, f, p⟩ = ⟨t, f, p.s_clean (bitB v 2)⟩ := by
  obtain ⟨h2, h3⟩ := by_byte v t f h0 h1
  unfold psFlag
  dsimp only
  rw [h2, h3, hb, if_neg (by simp)]; rfl
theorem keep_f (v : Int) (t : List UInt8) (f : Bool) (p : Pk) (h0 : 0 ≤ v) (h1 : v ≤ 65535) : psKeep ⟨wordL v ++ t, f, p⟩ = ⟨t, f, p.s_keep v⟩ := by
  obtain ⟨h2, h3, h4⟩ := wo_word v t f h0 h1
  unfold psKeep
  dsimp only
  rw [h2, h3, h4]
theorem id_f (v : Int) (t : List UInt8) (f : Bool) (p : Pk) (h0 : 0 ≤ v) (h1 : v ≤ 65535) : psId ⟨wordL v ++ t, f, p⟩ = ⟨t, f, p.s_id v⟩ := by
  obtain ⟨h2, h3, h4⟩ := wo_word v t f h0 h1
  unfold psId
  dsimp only
  rw [h2, h3, h4]
theorem client_f (x t : List UInt8) (f : Bool) (p : Pk) (h : valB x = true) : psClient ⟨fieldL x ++ t, f, p⟩ = ⟨t, f, p.s_client x⟩ := by
  obtain ⟨h1, h2, h3⟩ := tx_field x t f h
  unfold psClient
  dsimp only
  rw [h1, h2, h3]
theorem willT_f (x t : List UInt8) (f : Bool) (p : Pk) (h : valB x = true) : psWillT ⟨fieldL x ++ t, f, p⟩ = ⟨t, f, p.s_wt x⟩ := by
  obtain ⟨h1, h2, h3⟩ := tx_field x t f h
  unfold psWillT
  dsimp only
  rw [h1, h2, h3]
theorem userT_f (x t : List UInt8) (f : Bool) (p : Pk) (h : valB x = true) : psUserT ⟨fieldL x ++ t, f, p⟩ = ⟨t, f, p.s_user x⟩ := by
  obtain ⟨h1, h2, h3⟩ := tx_field x t f h
  unfold psUserT
  dsimp only
  rw [h1, h2, h3]
theorem willL_f (x t : List UInt8) (f : Bool) (p : Pk) (h : x.length ≤ 65535) : psWillL ⟨fieldL x ++ t, f, p⟩ = ⟨t, f, p.s_wl x⟩ := by
  obtain ⟨h1, h2, h3⟩ := da_field x t f h
  unfold psWillL
  dsimp only
  rw [h1, h2, h3]
theorem passT_f (x t : List UInt8) (f : Bool) (p : Pk) (h : x.length ≤ 65535) : psPassT ⟨fieldL x ++ t, f, p⟩ = ⟨t, f, p.s_pass x⟩ := by
  obtain ⟨h1, h2, h3⟩ := da_field x t f h
  unfold psPassT
  dsimp only
  rw [h1, h2, h3]
section
variable {p : Pk} {xs : List (List UInt8 × Int)}
theorem con_back (h : Ok p xs) (np : Num p xs) (e : p.ty = 1) : psCon ⟨conX p, false, zPk.s_ty 1⟩ = ⟨[], false, p⟩ := by
  have cp := con_of (h.con e)
  have wq := cp.wq np.wq.1
  have lp : p.level = 4 := by have := h.con e; simp only [conR, Bool.and_eq_true, beq_iff_eq] at this; exact this.1
  obtain ⟨b1, b2, b4, b8, b32, b64, b128⟩ := cbits p np.wq.1 wq
  have bc := cfl_bd np.wq.1 wq
  have e1 : psName ⟨conX p, false, zPk.s_ty 1⟩ = ⟨toB 4 :: (toB (cflN p) :: (wordL p.keep ++ (fieldL p.client ++ (willL p ++ (userL p ++ passL p))))), false, zPk.s_ty 1⟩ := name_f _ _ _
  unfold psCon
  rw [e1, level_f 4 _ _ _ (by omega) (by omega)]
  dsimp only
  rw [(by_byte (cflN p) _ false bc.1 bc.2).1, flag_f _ _ _ _ bc.1 bc.2 b1, keep_f _ _ _ _ np.keep.1 np.keep.2, client_f _ _ _ _ cp.client]
  have hw : psWill (cflN p) ⟨willL p ++ (userL p ++ passL p), false, (((((zPk.s_ty 1).s_level 4).s_clean (bitB (cflN p) 2)).s_keep p.keep).s_client p.client)⟩ = ⟨userL p ++ passL p, false, ((((((zPk.s_ty 1).s_level 4).s_clean p.clean).s_keep p.keep).s_client p.client).s_hasWill p.hasWill).s_will p.wt p.wl p.wq p.wr⟩ := by
    unfold psWill willL
    rw [b4, b8, b32, b2]
    cases hh : p.hasWill with
    | true =>
      rw [if_pos rfl, if_pos rfl]
      dsimp only
      rw [List.append_assoc, willT_f _ _ _ _ (cp.wt hh), willL_f _ _ _ _ (cp.wl hh)]
      rfl
    | false =>
      obtain ⟨k1, k2, k3, k4⟩ := cp.will hh
      rw [if_neg (by simp), if_neg (by simp), k1, k2, k3, k4]
      rfl
  rw [hw]
  have hl : psLogin (cflN p) ⟨userL p ++ passL p, false, ((((((zPk.s_ty 1).s_level 4).s_clean p.clean).s_keep p.keep).s_client p.client).s_hasWill p.hasWill).s_will p.wt p.wl p.wq p.wr⟩ = ⟨[], false, conP 4 p.clean p.keep p.client p.hasWill p.wt p.wl p.wq p.wr p.hasUser p.hasPass p.user p.pass⟩ := by
    unfold psLogin userL passL psHas
    rw [b64, b128]
    cases hu : p.hasUser with
    | true =>
      cases hp : p.hasPass with
      | true =>
        rw [if_pos rfl, if_pos rfl, if_pos rfl, if_pos rfl]
        dsimp only
        rw [userT_f _ _ _ _ (cp.user hu), show fieldL p.pass = fieldL p.pass ++ [] by simp, passT_f _ _ _ _ (cp.pass hp)]
        rfl
      | false =>
        rw [if_pos rfl, if_neg (by simp), if_pos rfl, if_neg (by simp)]
        dsimp only
        rw [userT_f _ _ _ _ (cp.user hu), cp.pass0 hp]
        rfl
    | false =>
      cases hp : p.hasPass with
      | true =>
        rw [if_neg (by simp), if_pos rfl, if_neg (by simp), if_pos rfl]
        dsimp only
        rw [List.nil_append, show fieldL p.pass = fieldL p.pass ++ [] by simp, passT_f _ _ _ _ (cp.pass hp), cp.user0 hu]
        rfl
      | false =>
        rw [if_neg (by simp), if_neg (by simp), if_neg (by simp), if_neg (by simp), cp.user0 hu, cp.pass0 hp]
        rfl
  rw [hl]
  have zp := h.zero
  rw [show takeL p = conL p by simp [takeL, e]] at zp
  rw [con_inj (p := conP 4 p.clean p.keep p.client p.hasWill p.wt p.wl p.wq p.wr p.hasUser p.hasPass p.user p.pass) (q := p) (by rfl) zp (by rw [e]; rfl) (by rw [lp]; rfl) rfl rfl rfl rfl rfl rfl rfl rfl rfl rfl rfl rfl]
theorem ack_back (h : Ok p xs) (np : Num p xs) (e : p.ty = 2) : psAck ⟨[toB (yesI p.present 1), toB p.code], false, zPk.s_ty 2⟩ = ⟨[], false, p⟩ := by
  have hb : 0 ≤ yesI p.present 1 ∧ yesI p.present 1 ≤ 1 := by unfold yesI; split <;> omega
  have hc := np.code
  obtain ⟨h1, h2⟩ := by_byte (yesI p.present 1) [toB p.code] false hb.1 (by omega)
  obtain ⟨h3, h4⟩ := by_byte p.code [] false hc.1 (by omega)
  have hpr : (yesI p.present 1 != 0) = p.present := by cases p.present <;> rfl
  unfold psAck psAck1
  dsimp only
  rw [h1, h2, if_neg (by omega), hpr]
  unfold psAck2
  show (⟨[], byF [toB p.code] false, ((zPk.s_ty 2).s_present p.present).s_code (byV [toB p.code])⟩ : Ps) = _
  rw [h3, h4]
  have zp := h.zero
  rw [show takeL p = ackL p by simp [takeL, e]] at zp
  rw [ack_inj (p := ((zPk.s_ty 2).s_present p.present).s_code p.code) (q := p) (by rfl) zp (by rw [e]; rfl) rfl rfl]
theorem pub1_f (x t : List UInt8) (f : Bool) (q : Pk) (fl : Int) (h : valB x = true) : psPub1 fl ⟨fieldL x ++ t, f, q⟩ = ⟨t, f, (((q.s_dup (bitB fl 8)).s_qos (fl / 2 % 4)).s_ret (bitB fl 1)).s_topic x⟩ := by
  obtain ⟨h1, h2, h3⟩ := tx_field x t f h
  unfold psPub1
  dsimp only
  rw [h1, h2, h3]
theorem pub_back (h : Ok p xs) (np : Num p xs) (e : p.ty = 3) : psPub (flagsN p) ⟨pubX p, false, zPk.s_ty 3⟩ = ⟨[], false, p⟩ := by
  obtain ⟨hq, hm⟩ := pub_qos h e
  obtain ⟨b8, b2, b1⟩ := pbits p e np.qos.1 hq
  have zp := h.zero
  rw [show takeL p = pubL p by simp [takeL, e]] at zp
  unfold psPub pubX
  rw [b2]
  rw [pub1_f _ _ _ _ _ (nm_val hm), b8, b2, b1]
  by_cases h0 : 0 < p.qos
  · rw [if_pos h0, if_pos h0, id_f _ _ _ _ np.id.1 np.id.2]
    unfold psLoad
    rw [pub_inj (p := ((((((zPk.s_ty 3).s_dup p.dup).s_qos p.qos).s_ret p.ret).s_topic p.topic).s_id p.id).s_load p.load) (q := p) (by rw [pubL_pos (((((((zPk.s_ty 3).s_dup p.dup).s_qos p.qos).s_ret p.ret).s_topic p.topic).s_id p.id).s_load p.load) h0]; rfl) zp (by rw [e]; rfl) rfl rfl rfl rfl (fun _ => rfl) rfl]
  · rw [if_neg h0, if_neg h0]
    show (⟨[], false, (((((zPk.s_ty 3).s_dup p.dup).s_qos p.qos).s_ret p.ret).s_topic p.topic).s_load p.load⟩ : Ps) = _
    have hd : p.dup = false ∧ p.id = 0 := by
      rw [pubL_neg p h0] at zp
      cases p
      simp only [Pk.s_topic, Pk.s_load, Pk.s_qos, Pk.s_ret, Pk.s_ty, zPk, Pk.mk.injEq] at zp
      exact ⟨zp.2.1, zp.2.2.2.2.1⟩
    rw [pub_inj (p := (((((zPk.s_ty 3).s_dup p.dup).s_qos p.qos).s_ret p.ret).s_topic p.topic).s_load p.load) (q := p) (by rw [pubL_neg ((((((zPk.s_ty 3).s_dup p.dup).s_qos p.qos).s_ret p.ret).s_topic p.topic).s_load p.load) h0, hd.1]; rfl) zp (by rw [e]; rfl) rfl rfl rfl rfl (fun hh => absurd hh h0) rfl]
theorem id_back {t : Int} (h : Ok p xs) (np : Num p xs) (e : p.ty = t) (ht : t = 4 ∨ t = 5 ∨ t = 6 ∨ t = 7 ∨ t = 11) : psId ⟨wordL p.id, false, zPk.s_ty t⟩ = ⟨[], false, p⟩ := by
  have zp := h.zero
  rw [show takeL p = p.s_id 0 by unfold takeL; rw [e]; rcases ht with rfl | rfl | rfl | rfl | rfl <;> rfl] at zp
  rw [show wordL p.id = wordL p.id ++ [] by simp, id_f _ _ _ _ np.id.1 np.id.2]
  rw [id_inj (p := (zPk.s_ty t).s_id p.id) (q := p) (by rfl) zp (by rw [e]; rfl) rfl]
theorem no_back {t : Int} (h : Ok p xs) (e : p.ty = t) (ht : t = 12 ∨ t = 13 ∨ t = 14) : zPk.s_ty t = p := by
  have zp := h.zero
  rw [show takeL p = p by unfold takeL; rw [e]; rcases ht with rfl | rfl | rfl <;> rfl] at zp
  exact no_inj (p := zPk.s_ty t) (q := p) (by rfl) zp (by rw [e]; rfl)
theorem codes_back (h : Ok p xs) (np : Num p xs) (e : p.ty = 9) : psCodes (psId ⟨wordL p.id ++ p.codes, false, zPk.s_ty 9⟩) = ⟨[], false, p⟩ := by
  have zp := h.zero
  rw [show takeL p = (p.s_id 0).s_codes [] by simp [takeL, e]] at zp
  rw [id_f _ _ _ _ np.id.1 np.id.2]
  unfold psCodes
  rw [cd_inj (p := ((zPk.s_ty 9).s_id p.id).s_codes p.codes) (q := p) (by rfl) zp (by rw [e]; rfl) rfl rfl]
theorem su_back (t : Int) : ∀ (ys : List (List UInt8 × Int)), (∀ x ∈ ys, valB x.1 = true ∧ 0 ≤ x.2 ∧ x.2 ≤ 255 ∧ (t ≠ 8 → x.2 = 0)) → suT t (subX t ys) false = (false, ys)
  | [], _ => suT_nil t false
  | x :: r, h => by
    obtain ⟨h1, h2, h3, h4⟩ := h x (by simp)
    have ih := su_back t r (fun y hy => h y (by simp [hy]))
    have hne : fieldL x.1 ++ (if t = 8 then [toB x.2] else []) ++ subX t r ≠ [] := by simp [fieldL]
    show suT t (fieldL x.1 ++ (if t = 8 then [toB x.2] else []) ++ subX t r) false = _
    obtain ⟨k1, k2, k3⟩ := tx_field x.1 ((if t = 8 then [toB x.2] else []) ++ subX t r) false h1
    rw [← List.append_assoc] at k1 k2 k3
    by_cases ht : t = 8
    · subst ht
      obtain ⟨j1, j2⟩ := by_byte x.2 (subX 8 r) false h2 (by omega)
      rw [suT_8 _ _ hne, k1, k2, k3]
      simp only [if_true, List.singleton_append]
      rw [j1, j2]
      show ((suT 8 (subX 8 r) false).1, (x.1, x.2) :: (suT 8 (subX 8 r) false).2) = _
      rw [ih]
    · rw [suT_10 t _ _ hne ht, k1, k2, k3, if_neg ht, List.nil_append, ih, ← h4 ht]
theorem subs_back {t : Int} (h : Ok p xs) (np : Num p xs) (e : p.ty = t) (ht : t = 8 ∨ t = 10) : psSubs t ⟨wordL p.id ++ subX t xs, false, zPk.s_ty t⟩ = ⟨[], false, p⟩ ∧ psXs t (wordL p.id ++ subX t xs) false = xs := by
  have zp := h.zero
  rw [show takeL p = p.s_id 0 by unfold takeL; rw [e]; rcases ht with rfl | rfl <;> rfl] at zp
  obtain ⟨h2, h3, h4⟩ := wo_word p.id (subX t xs) false np.id.1 np.id.2
  have hx : ∀ x ∈ xs, valB x.1 = true ∧ 0 ≤ x.2 ∧ x.2 ≤ 255 ∧ (t ≠ 8 → x.2 = 0) := by
    intro x hx
    have hn := np.sub x hx
    rcases ht with rfl | rfl
    · exact ⟨(sbR_mem (h.sub e) x hx).1, hn.1, hn.2, fun hh => absurd rfl hh⟩
    · have := sbR_mem (h.uns e) x hx
      exact ⟨this.1, hn.1, hn.2, fun _ => by omega⟩
  have hs := su_back t xs hx
  constructor
  · unfold psSubs
    dsimp only
    rw [h2, h3, h4, hs]
    rw [id_inj (p := (zPk.s_ty t).s_id p.id) (q := p) (by rfl) zp (by rw [e]; rfl) rfl]
  · unfold psXs
    rw [if_pos ht, h3, h4, hs]
theorem body_back (h : Ok p xs) (np : Num p xs) : psBody p.ty (flagsN p) ⟨bodyL p xs, false, zPk.s_ty p.ty⟩ = ⟨[], false, p⟩ ∧ psXs p.ty (bodyL p xs) false = xs := by
  have hn := h.none
  rcases h.ty with e | e | e | e | e | e | e | e | e | e | e | e | e | e
  · have hb : bodyL p xs = conX p := by unfold bodyL; rw [if_pos e]
    rw [hb, e, nil_of hn (by omega) (by omega)]
    exact ⟨con_back h np e, rfl⟩
  · have hb : bodyL p xs = [toB (yesI p.present 1), toB p.code] := by unfold bodyL; rw [e]; rfl
    rw [hb, e, nil_of hn (by omega) (by omega)]
    exact ⟨ack_back h np e, rfl⟩
  · have hb : bodyL p xs = pubX p := by unfold bodyL; rw [e]; rfl
    rw [hb, e, nil_of hn (by omega) (by omega)]
    exact ⟨pub_back h np e, rfl⟩
  · have hb : bodyL p xs = wordL p.id := by unfold bodyL; rw [e]; rfl
    rw [hb, e, nil_of hn (by omega) (by omega)]
    exact ⟨id_back h np e (by decide), rfl⟩
  · have hb : bodyL p xs = wordL p.id := by unfold bodyL; rw [e]; rfl
    rw [hb, e, nil_of hn (by omega) (by omega)]
    exact ⟨id_back h np e (by decide), rfl⟩
  · have hb : bodyL p xs = wordL p.id := by unfold bodyL; rw [e]; rfl
    rw [hb, e, nil_of hn (by omega) (by omega)]
    exact ⟨id_back h np e (by decide), rfl⟩
  · have hb : bodyL p xs = wordL p.id := by unfold bodyL; rw [e]; rfl
    rw [hb, e, nil_of hn (by omega) (by omega)]
    exact ⟨id_back h np e (by decide), rfl⟩
  · have hb : bodyL p xs = wordL p.id ++ subX 8 xs := by unfold bodyL; rw [e]; rfl
    rw [hb, e]
    exact subs_back h np e (by decide)
  · have hb : bodyL p xs = wordL p.id ++ p.codes := by unfold bodyL; rw [e]; rfl
    rw [hb, e, nil_of hn (by omega) (by omega)]
    exact ⟨codes_back h np e, rfl⟩
  · have hb : bodyL p xs = wordL p.id ++ subX 10 xs := by unfold bodyL; rw [e]; rfl
    rw [hb, e]
    exact subs_back h np e (by decide)
  · have hb : bodyL p xs = wordL p.id := by unfold bodyL; rw [e]; rfl
    rw [hb, e, nil_of hn (by omega) (by omega)]
    exact ⟨id_back h np e (by decide), rfl⟩
  · have hb : bodyL p xs = [] := by unfold bodyL; rw [e]; rfl
    rw [hb, e, nil_of hn (by omega) (by omega)]
    exact ⟨by show (⟨[], false, zPk.s_ty 12⟩ : Ps) = _; rw [no_back h e (by decide)], rfl⟩
  · have hb : bodyL p xs = [] := by unfold bodyL; rw [e]; rfl
    rw [hb, e, nil_of hn (by omega) (by omega)]
    exact ⟨by show (⟨[], false, zPk.s_ty 13⟩ : Ps) = _; rw [no_back h e (by decide)], rfl⟩
  · have hb : bodyL p xs = [] := by unfold bodyL; rw [e]; rfl
    rw [hb, e, nil_of hn (by omega) (by omega)]
    exact ⟨by show (⟨[], false, zPk.s_ty 14⟩ : Ps) = _; rw [no_back h e (by decide)], rfl⟩
/-- The first byte of a packet. -/
theorem head_bd (h : Ok p xs) (np : Num p xs) : 0 ≤ p.ty * 16 + flagsN p ∧ p.ty * 16 + flagsN p < 256 ∧ (p.ty * 16 + flagsN p) / 16 = p.ty ∧ (p.ty * 16 + flagsN p) % 16 = flagsN p ∧ firB (p.ty * 16 + flagsN p) = true := by
  have hf := flags_bd h np
  have ht := h.ty
  have e1 : (p.ty * 16 + flagsN p) / 16 = p.ty := by omega
  have e2 : (p.ty * 16 + flagsN p) % 16 = flagsN p := by omega
  refine ⟨by omega, by omega, e1, e2, ?_⟩
  unfold firB
  rw [e1, e2]
  by_cases e3 : p.ty = 3
  · have hq := (pub_qos h e3).1
    have := (pbits p e3 np.qos.1 hq).2.1
    rw [if_pos e3, this]
    simpa using hq
  · rw [if_neg e3]
    unfold flagsN
    rw [if_neg e3]
    by_cases e4 : p.ty = 6 ∨ p.ty = 8 ∨ p.ty = 10
    · rw [if_pos e4, if_pos e4]; rfl
    · rw [if_neg e4, if_neg e4]
      simp
      omega
end
theorem cut_cons (b : UInt8) (r : List UInt8) : cutR (b :: r) = if firB b.toNat then
      if (rdR r).2.2 = 0 then
        if (r.length : Int) - (rdR r).2.1 < (rdR r).1 then ([], 0, 2) else ((r.drop (rdR r).2.1.toNat).take (rdR r).1.toNat, 1 + (rdR r).2.1 + (rdR r).1, 0)
      else ([], 0, (rdR r).2.2)
    else ([], 0, 4) := rfl
section
variable {p : Pk} {xs : List (List UInt8 × Int)}
theorem par_back (h : Ok p xs) (np : Num p xs) (c : Int) (hc : c / 16 = p.ty) (hf : c % 16 = flagsN p) : parR c (bodyL p xs) = (p, xs, true) := by
  obtain ⟨h1, h2⟩ := body_back h np
  have hr := h.lo
  unfold parR endP endX
  rw [hc, hf, h1, h2]
  simp [hr]
end
/-- What stands at the beginning of what is cut out. -/
theorem cut_ok {s : List UInt8} (h : (cutR s).2.2 = 0) : ∃ b r n u, s = b :: r ∧ firB b.toNat = true ∧ rdR r = (n, u, 0) ∧ 0 ≤ n ∧ 1 ≤ u ∧ u + n ≤ r.length ∧ (lenL 3 n).length ≤ u ∧ cutR s = ((r.drop u.toNat).take n.toNat, 1 + u + n, 0) ∧ n ≤ 268435455 := by
  rcases s with _ | ⟨b, r⟩
  · simp [cutR] at h
  · rw [cut_cons] at h
    split at h
    · rename_i hf
      split at h
      · rename_i hr
        split at h
        · simp at h
        · rename_i hl
          obtain ⟨j, hj, hc, hjl, hn0, hn1, ht⟩ := rdR_ok r (rdR r).1 (rdR r).2.1 (by rw [← hr])
          have hp : (128 : Int) ^ (j + 1) ≤ 268435456 := by
            have : j = 0 ∨ j = 1 ∨ j = 2 ∨ j = 3 := by omega
            rcases this with rfl | rfl | rfl | rfl <;> decide
          refine ⟨b, r, (rdR r).1, (rdR r).2.1, rfl, hf, by rw [← hr], hn0, by omega, by omega, ?_, ?_, by omega⟩
          · obtain ⟨z, hz1, hz2, hz3, hz4, hz5⟩ := lenL_enc (rdR r).1 hn0 (by omega)
            have := hz5 j hn1
            rw [hz4, encF_len]
            omega
          · rw [cut_cons, if_pos hf, if_pos hr, if_neg hl]
      · rename_i hr
        exact absurd h hr
    · simp at h
theorem cut_er (s : List UInt8) : (cutR s).2.2 = 0 ∨ cutR s = ([], 0, 2) ∨ cutR s = ([], 0, 4) := by
  rcases s with _ | ⟨b, r⟩
  · right; left; rfl
  · rw [cut_cons]
    split
    · split
      · split
        · right; left; rfl
        · left; rfl
      · rename_i h
        rcases rdR_bad r with ⟨n, c, hh⟩ | hh | hh
        · rw [hh] at h; exact absurd rfl h
        · right; left; rw [hh]
        · right; right; rw [hh]
    · right; right; rfl
theorem dec_er {s : List UInt8} {p : Pk} {xs : List (List UInt8 × Int)} {n e : Int} (h : decR s = (p, xs, n, e)) (he : e ≠ 0) : (e = 2 ∨ e = 4) ∧ p = zPk ∧ xs = [] ∧ n = 0 := by
  unfold decR at h
  split at h
  · split at h
    · simp only [Prod.mk.injEq] at h
      exact absurd h.2.2.2.symm he
    · split at h
      · simp only [Prod.mk.injEq] at h
        exact absurd h.2.2.2.symm he
      · simp only [Prod.mk.injEq] at h
        obtain ⟨rfl, rfl, rfl, rfl⟩ := h
        exact ⟨Or.inr rfl, rfl, rfl, rfl⟩
  · rename_i h0
    simp only [Prod.mk.injEq] at h
    obtain ⟨rfl, rfl, rfl, rfl⟩ := h
    refine ⟨?_, rfl, rfl, rfl⟩
    rcases cut_er s with h1 | h1 | h1
    · exact absurd h1 h0
    · rw [h1]; exact Or.inl rfl
    · rw [h1]; exact Or.inr rfl
theorem got_fit {t fl : Int} {l : List UInt8} {p : Pk} {xs : List (List UInt8 × Int)} (h : Got t fl l p xs) (hl : l.length ≤ 90000) : Fit p xs := by
  have h1 := h.tot
  have h2 := h.num
  have h3 := h.nums
  exact ⟨h3.ty, h3.qos, h3.id, h3.level, h3.keep, h3.wq, h3.code, by omega, by omega, h3.sub⟩
theorem bodyY_ok {p : Pk} {xs : List (List UInt8 × Int)} (h : Ok p xs) : bodyY p xs = bodyL p xs := by
  unfold bodyY
  by_cases e : p.ty = 1
  · have lp : p.level = 4 := by have := h.con e; simp only [conR, Bool.and_eq_true, beq_iff_eq] at this; exact this.1
    rw [if_pos e]
    unfold bodyL conY conX
    rw [if_pos e, lp]
    rfl
  · rw [if_neg e]
/-- What a packet that is read has. -/
structure Was (s : List UInt8) (p : Pk) (xs : List (List UInt8 × Int)) (n : Int) (b : UInt8) (r : List UInt8) (v u : Int) : Prop where
  s : s = b :: r
  rd : rdR r = (v, u, 0)
  ok : Ok p xs
  fit : Fit p xs
  rest : restN p xs = v
  n : n = 1 + u + v
  lo : 0 ≤ v
  u1 : 1 ≤ u
  le : u + v ≤ r.length
  enc : encL p xs = b :: (lenL 3 v ++ (r.drop u.toNat).take v.toNat)
  len : (lenL 3 v).length ≤ u
  ty : p.ty = b.toNat / 16
theorem dec_ok {s : List UInt8} {p : Pk} {xs : List (List UInt8 × Int)} {n : Int} (h : decR s = (p, xs, n, 0)) (hl : (cutR s).1.length ≤ 90000) :
    (∃ v b r, s = b :: r ∧ p = (zPk.s_ty 1).s_level v ∧ xs = [] ∧ 0 ≤ v ∧ v ≤ 255 ∧ v ≠ 4 ∧ b.toNat / 16 = 1 ∧ 2 ≤ n ∧ n ≤ s.length) ∨ (∃ b r v u, Was s p xs n b r v u) := by
  unfold decR at h
  split at h
  · rename_i h0
    obtain ⟨b, r, m, u, hs, hf, hrd, hm0, hu1, hle, hll, hcut, hm1⟩ := cut_ok h0
    have hbl := b.toNat_lt
    have hbv : byV s = b.toNat := by rw [hs]; rfl
    rw [hbv] at h
    rw [hcut] at h hl
    dsimp only at h hl
    split at h
    · rename_i ho
      left
      simp only [Prod.mk.injEq] at h
      obtain ⟨rfl, rfl, rfl, _⟩ := h
      unfold othR at ho ⊢
      split at ho
      · rename_i e1
        split at ho
        · rename_i e2
          split at ho
          · cases ho
          · rename_i e3
            rw [if_pos e1, if_pos e2, if_neg e3]
            simp only [Bool.or_eq_true, beq_iff_eq, not_or] at e3
            have hb := by_bd (gtL ((r.drop u.toNat).take m.toNat) (getR ((r.drop u.toNat).take m.toNat)))
            refine ⟨_, b, r, hs, rfl, rfl, hb.1, hb.2, e3.2, by omega, by omega, ?_⟩
            rw [hs, List.length_cons]; omega
        · cases ho
      · cases ho
    · rename_i ho
      split at h
      · rename_i hp
        right
        simp only [Prod.mk.injEq] at h
        obtain ⟨h1, h2, rfl, _⟩ := h
        obtain ⟨B, hB⟩ : ∃ B, B = (r.drop u.toNat).take m.toNat := ⟨_, rfl⟩
        rw [← hB] at h1 h2 hp hl
        unfold parR at h1 h2 hp
        split at hp
        · cases hp
        · rename_i hg
          rw [if_neg hg] at h1 h2
          simp only [Bool.or_eq_true, not_or, Bool.not_eq_true, Bool.not_eq_false', List.isEmpty_iff, decide_eq_true_eq] at hg
          obtain ⟨⟨g1, g2⟩, g3⟩ := hg
          have hgot := end_got hf g1 g2
          dsimp only at h1 h2
          rw [h1, h2] at hgot g3
          have hok := ok_of g3
          have hfit := got_fit hgot hl
          have hbody := hgot.body
          rw [bodyY_ok hok] at hbody
          have hbl2 := body_len hok
          have hBl : (B.length : Int) = m := by rw [hB, List.length_take, List.length_drop]; omega
          have hrest : restN p xs = m := by rw [← hbl2, hbody, hBl]
          refine ⟨b, r, m, u, hs, hrd, hok, hfit, hrest, rfl, hm0, hu1, hle, ?_, by omega, by have := hgot.ty; omega⟩
          unfold encL
          rw [hrest, hbody, hB, hgot.flags, hgot.ty]
          rw [show (b.toNat : Int) / 16 * 16 + (b.toNat : Int) % 16 = (b.toNat : Int) by omega, toB_of]
      · simp only [Prod.mk.injEq] at h
        exact absurd h.2.2.2 (by decide)
  · rename_i h0
    simp only [Prod.mk.injEq] at h
    exact absurd h.2.2.2 h0
/-! A CONNECT of another level, of another protocol -/
end Go.Proofs.YtnaedcennichlaaGreatDoor
