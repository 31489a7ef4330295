/-
  What packet answers, as plain functions.
-/
import Derived.Test.YtncgkkhpcgdcaaaDoorPkEq
import Derived.Test.YtncgkkhpcgdcaaaDoorPkFacts
set_option linter.unusedSimpArgs false
set_option linter.unusedVariables false
namespace Go.Proofs.YtncgkkhpcgdcaaaDoor

def fldB (l : List UInt8) : Int := (l.length : Int) + 2
def isCd (b : UInt8) : Bool := decide (b.toNat ≤ 2) || b.toNat == 128
def cdB (l : List UInt8) : Bool := !l.isEmpty && l.all isCd
def lgB (p : Pk) : Bool := ((p.user.isEmpty || (p.hasUser && valB p.user)) && (p.pass.isEmpty || (p.hasPass && decide (p.pass.length ≤ 65535)))) && (p.hasUser || !p.hasPass)
def wlB (p : Pk) : Bool := if p.hasWill then nmB p.wt && (decide (p.wl.length ≤ 65535) && decide (p.wq ≤ 2)) else eqMs p.wt p.wl p.wq p.wr [] [] 0 false
def conR (p : Pk) : Bool := p.level == 4 && (valB p.client && (wlB p && lgB p))
def conB (p : Pk) : Int := 10 + fldB p.client + (if p.hasWill then fldB p.wt + fldB p.wl else 0) + (if p.hasUser then fldB p.user else 0) + (if p.hasPass then fldB p.pass else 0)
def conL (p : Pk) : Pk := (((((((((((p.s_level 0).s_clean false).s_keep 0).s_client []).s_hasWill false).s_will [] [] 0 false).s_hasUser false).s_user []).s_hasPass false).s_pass []))
def ackR (p : Pk) : Bool := decide (p.code ≤ 5) && (p.code == 0 || !p.present)
def ackL (p : Pk) : Pk := (p.s_present false).s_code 0
def pubR (p : Pk) : Bool := (nmB p.topic && decide (p.qos ≤ 2)) && (decide (p.qos ≤ 0) || decide (0 < p.id))
def pubB (p : Pk) : Int := fldB p.topic + p.load.length + (if 0 < p.qos then 2 else 0)
def pubL (p : Pk) : Pk := ((((if 0 < p.qos then (p.s_id 0).s_dup false else p).s_topic []).s_load []).s_qos 0).s_ret false
/-- Subs, to one way: are they right? -/
def sbR (top : Int) (xs : List (List UInt8 × Int)) : Bool := !xs.isEmpty && xs.all fun x => flB x.1 && decide (x.2 ≤ top)
def sbB (add : Int) : List (List UInt8 × Int) → Int
  | [] => 0
  | x :: r => (fldB x.1 + add) + sbB add r
def takeR (p : Pk) (xs : List (List UInt8 × Int)) : Bool :=
  if p.ty = 1 then conR p else if p.ty = 2 then ackR p else if p.ty = 3 then pubR p else if p.ty = 8 then decide (0 < p.id) && sbR 2 xs else if p.ty = 9 then decide (0 < p.id) && cdB p.codes else if p.ty = 10 then decide (0 < p.id) && sbR 0 xs
  else if p.ty = 4 ∨ p.ty = 5 ∨ p.ty = 6 ∨ p.ty = 7 ∨ p.ty = 11 then decide (0 < p.id) else if p.ty = 12 ∨ p.ty = 13 ∨ p.ty = 14 then true else false
def takeB (p : Pk) (xs : List (List UInt8 × Int)) : Int :=
  if p.ty = 1 then conB p else if p.ty = 2 then 2 else if p.ty = 3 then pubB p else if p.ty = 8 then 2 + sbB 1 xs else if p.ty = 9 then 2 + p.codes.length else if p.ty = 10 then 2 + sbB 0 xs
  else if p.ty = 4 ∨ p.ty = 5 ∨ p.ty = 6 ∨ p.ty = 7 ∨ p.ty = 11 then 2 else 0
def takeL (p : Pk) : Pk :=
  if p.ty = 1 then conL p else if p.ty = 2 then ackL p else if p.ty = 3 then pubL p else if p.ty = 8 then p.s_id 0 else if p.ty = 9 then (p.s_id 0).s_codes [] else if p.ty = 10 then p.s_id 0
  else if p.ty = 4 ∨ p.ty = 5 ∨ p.ty = 6 ∨ p.ty = 7 ∨ p.ty = 11 then p.s_id 0 else p
/-- How many Subs are left. -/
def takeN (p : Pk) (n : Nat) : Nat := if p.ty = 8 ∨ p.ty = 10 then 0 else n
def restN (p : Pk) (xs : List (List UInt8 × Int)) : Int :=
  if (takeR p xs && decide (takeB p xs ≤ 268435455)) && (eqPk ((takeL p).s_ty 0) zPk && takeN p xs.length == 0) then takeB p xs else -1
/-- The sum of a packet's texts. -/
def sumB : List (List UInt8 × Int) → Nat
  | [] => 0
  | x :: r => x.1.length + sumB r
def totB (p : Pk) (xs : List (List UInt8 × Int)) : Nat := p.topic.length + (p.load.length + (p.client.length + (p.wt.length + (p.wl.length + (p.user.length + (p.pass.length + (p.codes.length + sumB xs)))))))
/-- A packet that the walks go through: its numbers are bytes and words, its texts are not too long. -/
structure Fit (p : Pk) (xs : List (List UInt8 × Int)) : Prop where
  ty : 0 ≤ p.ty ∧ p.ty ≤ 255
  qos : 0 ≤ p.qos ∧ p.qos ≤ 255
  id : 0 ≤ p.id ∧ p.id ≤ 65535
  level : 0 ≤ p.level ∧ p.level ≤ 255
  keep : 0 ≤ p.keep ∧ p.keep ≤ 65535
  wq : 0 ≤ p.wq ∧ p.wq ≤ 255
  code : 0 ≤ p.code ∧ p.code ≤ 255
  tot : totB p xs ≤ 90000
  num : xs.length ≤ 50000
  sub : ∀ x ∈ xs, 0 ≤ x.2 ∧ x.2 ≤ 255
theorem sbB_bd (add : Int) (h0 : 0 ≤ add) : ∀ xs, 0 ≤ sbB add xs ∧ sbB add xs = (sumB xs : Int) + (2 + add) * xs.length
  | [] => ⟨Int.le_refl _, by simp [sbB, sumB]⟩
  | x :: r => by
    have ⟨h1, h2⟩ := sbB_bd add h0 r
    simp only [sbB, sumB, fldB, List.length_cons]
    refine ⟨by omega, ?_⟩
    rw [h2]
    have : (2 + add) * ((r.length + 1 : Nat) : Int) = (2 + add) * (r.length : Int) + (2 + add) := by rw [Int.natCast_add]; simp [Int.mul_add]
    rw [this]
    simp only [Int.natCast_add]
    omega
theorem sumB_mem : ∀ (xs : List (List UInt8 × Int)) x, x ∈ xs → x.1.length ≤ sumB xs
  | [], _, h => by cases h
  | y :: r, x, h => by
    rcases List.mem_cons.1 h with rfl | h
    · simp [sumB]
    · have := sumB_mem r x h; simp [sumB]; omega
end Go.Proofs.YtncgkkhpcgdcaaaDoor
