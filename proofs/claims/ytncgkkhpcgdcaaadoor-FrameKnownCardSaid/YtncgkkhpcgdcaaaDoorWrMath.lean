/-
  Encodings of packets: the plain mathematics of write's statements.
-/
import Derived.Test.YtncgkkhpcgdcaaaDoorPkRestsM
import Derived.Test.YtncgkkhpcgdcaaaDoorTextWalks
import Derived.Test.YtncgkkhpcgdcaaaDoorNumFacts
set_option linter.unusedSimpArgs false
set_option linter.unusedVariables false
namespace Go.Proofs.YtncgkkhpcgdcaaaDoor

def wordL (n : Int) : List UInt8 := [toB (n / 256), toB (n % 256)]
def yesI (b : Bool) (n : Int) : Int := if b then n else 0
def flagsN (p : Pk) : Int := if p.ty = 3 then yesI p.dup 8 + p.qos * 2 + yesI p.ret 1 else if p.ty = 6 ∨ p.ty = 8 ∨ p.ty = 10 then 2 else 0
def cflN (p : Pk) : Int := yesI p.hasUser 128 + yesI p.hasPass 64 + yesI p.wr 32 + p.wq * 8 + yesI p.hasWill 4 + yesI p.clean 2
def willL (p : Pk) : List UInt8 := if p.hasWill then fieldL p.wt ++ fieldL p.wl else []
def userL (p : Pk) : List UInt8 := if p.hasUser then fieldL p.user else []
def passL (p : Pk) : List UInt8 := if p.hasPass then fieldL p.pass else []
def conX (p : Pk) : List UInt8 := fieldL [77, 81, 84, 84] ++ ([4] ++ ([toB (cflN p)] ++ (wordL p.keep ++ (fieldL p.client ++ (willL p ++ (userL p ++ passL p))))))
def pubX (p : Pk) : List UInt8 := fieldL p.topic ++ ((if 0 < p.qos then wordL p.id else []) ++ p.load)
def subX (t : Int) : List (List UInt8 × Int) → List UInt8
  | [] => []
  | x :: r => (fieldL x.1 ++ (if t = 8 then [toB x.2] else [])) ++ subX t r
def bodyL (p : Pk) (xs : List (List UInt8 × Int)) : List UInt8 :=
  if p.ty = 1 then conX p else if p.ty = 2 then [toB (yesI p.present 1), toB p.code] else if p.ty = 3 then pubX p else if p.ty = 8 ∨ p.ty = 10 then wordL p.id ++ subX p.ty xs else if p.ty = 9 then wordL p.id ++ p.codes
  else if p.ty = 12 ∨ p.ty = 13 ∨ p.ty = 14 then [] else wordL p.id
def encL (p : Pk) (xs : List (List UInt8 × Int)) : List UInt8 := toB (p.ty * 16 + flagsN p) :: (lenL 3 (restN p xs) ++ bodyL p xs)

theorem subX_app (t : Int) : ∀ a b, subX t (a ++ b) = subX t a ++ subX t b
  | [], _ => rfl
  | x :: r, b => by simp only [List.cons_append, subX, subX_app t r b, List.append_assoc]
theorem subX_len (t : Int) : ∀ xs, ((subX t xs).length : Int) = sbB (if t = 8 then 1 else 0) xs
  | [] => rfl
  | x :: r => by
    have ih := subX_len t r
    simp only [subX, sbB, List.length_append, fieldL_len, fldB, Int.natCast_add, ih]
    split <;> simp
theorem wordL_len (n : Int) : (wordL n).length = 2 := rfl

/-- What a packet that is right has. -/
structure Ok (p : Pk) (xs : List (List UInt8 × Int)) : Prop where
  take : takeR p xs = true
  bytes : takeB p xs = restN p xs
  zero : (takeL p).s_ty 0 = zPk
  none : takeN p xs.length = 0
  hi : restN p xs ≤ 268435455
  lo : 0 ≤ restN p xs
theorem ok_of {p : Pk} {xs : List (List UInt8 × Int)} (h : 0 ≤ restN p xs) : Ok p xs := by
  have h0 : restN p xs = restN p xs := rfl
  generalize hv : restN p xs = v at h h0
  unfold restN at hv
  obtain ⟨h1, h2⟩ := rest_pos hv h
  simp only [Bool.and_eq_true, decide_eq_true_eq, beq_iff_eq] at h1
  have h3 : restN p xs = v := by
    unfold restN
    exact hv
  exact ⟨h1.1.1, by rw [h2, h3], (eqPk_iff _ _).1 h1.2.1, h1.2.2, by rw [h3, ← h2]; exact h1.1.2, by rw [h3]; exact h⟩
theorem Ok.ty {p : Pk} {xs : List (List UInt8 × Int)} (h : Ok p xs) : p.ty = 1 ∨ p.ty = 2 ∨ p.ty = 3 ∨ p.ty = 4 ∨ p.ty = 5 ∨ p.ty = 6 ∨ p.ty = 7 ∨ p.ty = 8 ∨ p.ty = 9 ∨ p.ty = 10 ∨ p.ty = 11 ∨ p.ty = 12 ∨ p.ty = 13 ∨ p.ty = 14 := by
  have h1 := h.take
  unfold takeR at h1
  by_cases e1 : p.ty = 1
  · simp [e1]
  by_cases e2 : p.ty = 2
  · simp [e2]
  by_cases e3 : p.ty = 3
  · simp [e3]
  by_cases e8 : p.ty = 8
  · simp [e8]
  by_cases e9 : p.ty = 9
  · simp [e9]
  by_cases e10 : p.ty = 10
  · simp [e10]
  by_cases e4 : p.ty = 4 ∨ p.ty = 5 ∨ p.ty = 6 ∨ p.ty = 7 ∨ p.ty = 11
  · rcases e4 with e | e | e | e | e <;> simp [e]
  by_cases e12 : p.ty = 12 ∨ p.ty = 13 ∨ p.ty = 14
  · rcases e12 with e | e | e <;> simp [e]
  simp [e1, e2, e3, e8, e9, e10, e4, e12] at h1
section
variable {p : Pk} {xs : List (List UInt8 × Int)}
theorem Ok.con (h : Ok p xs) (e : p.ty = 1) : conR p = true := by have := h.take; simpa [takeR, e] using this
theorem Ok.ack (h : Ok p xs) (e : p.ty = 2) : ackR p = true := by have := h.take; simpa [takeR, e] using this
theorem Ok.pub (h : Ok p xs) (e : p.ty = 3) : pubR p = true := by have := h.take; simpa [takeR, e] using this
theorem Ok.sub (h : Ok p xs) (e : p.ty = 8) : sbR 2 xs = true := by have := h.take; simp [takeR, e] at this; exact this.2
theorem Ok.uns (h : Ok p xs) (e : p.ty = 10) : sbR 0 xs = true := by have := h.take; simp [takeR, e] at this; exact this.2
theorem nm_val {l : List UInt8} (h : nmB l = true) : valB l = true := by
  unfold nmB at h
  simp only [Bool.and_eq_true] at h
  exact h.2.1
theorem val_len {l : List UInt8} (h : valB l = true) : l.length ≤ 65535 := by
  obtain ⟨_, _, _, h⟩ := valB_some l h
  exact h
/-- The texts of a CONNECT that is right. -/
structure Con (p : Pk) : Prop where
  client : valB p.client = true
  wt : p.hasWill = true → valB p.wt = true
  wl : p.hasWill = true → p.wl.length ≤ 65535
  wq : 0 ≤ p.wq → p.wq ≤ 2
  will : p.hasWill = false → p.wt = [] ∧ p.wl = [] ∧ p.wq = 0 ∧ p.wr = false
  user : p.hasUser = true → valB p.user = true
  user0 : p.hasUser = false → p.user = []
  pass : p.hasPass = true → p.pass.length ≤ 65535
  pass0 : p.hasPass = false → p.pass = []
theorem con_of (h : conR p = true) : Con p := by
  simp only [conR, wlB, lgB, Bool.and_eq_true] at h
  obtain ⟨_, h1, h2, ⟨h3, h4⟩, h5⟩ := h
  refine ⟨h1, fun e => ?_, fun e => ?_, fun _ => ?_, fun e => ?_, fun e => ?_, fun e => ?_, fun e => ?_, fun e => ?_⟩
  · rw [if_pos e] at h2
    simp only [Bool.and_eq_true] at h2
    exact nm_val h2.1
  · rw [if_pos e] at h2
    simp only [Bool.and_eq_true, decide_eq_true_eq] at h2
    exact h2.2.1
  · cases e : p.hasWill with
    | true =>
      rw [if_pos e] at h2
      simp only [Bool.and_eq_true, decide_eq_true_eq] at h2
      exact h2.2.2
    | false =>
      rw [if_neg (by simp [e])] at h2
      simp [eqMs] at h2
      omega
  · rw [if_neg (by simp [e])] at h2
    simpa [eqMs, and_assoc] using h2
  · simp only [Bool.or_eq_true, Bool.and_eq_true] at h3
    rcases h3 with h3 | h3
    · rw [List.isEmpty_iff.1 h3]; decide +kernel
    · exact h3.2
  · simp [e] at h3
    exact h3
  · simp only [Bool.or_eq_true, Bool.and_eq_true, decide_eq_true_eq] at h4
    rcases h4 with h4 | h4
    · rw [List.isEmpty_iff.1 h4]; decide
    · exact h4.2
  · simp [e] at h4
    exact h4
theorem sbR_mem {t : Int} (h : sbR t xs = true) : ∀ x ∈ xs, valB x.1 = true ∧ x.2 ≤ t := by
  intro x hx
  simp only [sbR, Bool.and_eq_true, List.all_eq_true] at h
  have := h.2 x hx
  simp only [flB, Bool.and_eq_true, decide_eq_true_eq] at this
  exact ⟨this.1.2.1, this.2⟩
theorem conX_len (p : Pk) : ((conX p).length : Int) = conB p := by
  unfold conX conB willL userL passL fldB
  cases p.hasWill <;> cases p.hasUser <;> cases p.hasPass <;> simp [fieldL_len, wordL_len] <;> omega
theorem pubX_len (p : Pk) : ((pubX p).length : Int) = pubB p := by
  unfold pubX pubB fldB
  split <;> simp [fieldL_len, wordL_len] <;> omega
theorem body_len (h : Ok p xs) : ((bodyL p xs).length : Int) = restN p xs := by
  rw [← h.bytes]
  unfold bodyL takeB
  rcases h.ty with e | e | e | e | e | e | e | e | e | e | e | e | e | e <;> rw [e]
  · exact conX_len p
  · rfl
  · exact pubX_len p
  · rfl
  · rfl
  · rfl
  · rfl
  · simp [wordL_len, subX_len]
  · simp [wordL_len]
  · simp [wordL_len, subX_len]
  · rfl
  · rfl
  · rfl
  · rfl
theorem enc_len (h : Ok p xs) : ((encL p xs).length : Int) = 1 + sizeF (restN p xs) + restN p xs := by
  have h1 := lenL_size (restN p xs) h.lo h.hi
  have h2 := body_len h
  simp only [encL, List.length_cons, List.length_append, Int.natCast_add]
  omega
end
end Go.Proofs.YtncgkkhpcgdcaaaDoor
