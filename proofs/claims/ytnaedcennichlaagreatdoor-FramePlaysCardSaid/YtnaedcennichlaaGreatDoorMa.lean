/-
  PkEq, PkFacts, PkSpec, PkMath, PkRestsM in one. (By tools/cmerge.py.)
-/
import Derived.Test.YtnaedcennichlaaGreatDoorPkKit
import Derived.Shelf.SlicesQ.Equal
import Derived.Test.YtnaedcennichlaaGreatDoorTextFacts
import Derived.Lib.IndexAny
import Derived.Lib.SplitLaws
set_option linter.unusedSimpArgs false
set_option linter.unusedVariables false
/-
  When two packets' scalars are one, when two messages are: what the model's '==' says.
-/
namespace Go.Proofs.YtnaedcennichlaaGreatDoor
open Go.RowKit

def eqMs (t l : List UInt8) (q : Int) (r : Bool) (t' l' : List UInt8) (q' : Int) (r' : Bool) : Bool := t == t' && (l == l' && (q == q' && (r == r' && true)))
def eqPk (p q : Pk) : Bool := (p.ty == q.ty && (p.dup == q.dup && (p.qos == q.qos && (p.ret == q.ret && (p.id == q.id && (p.topic == q.topic && (p.load == q.load && (p.level == q.level && (p.clean == q.clean && (p.keep == q.keep && (p.client == q.client && (p.hasWill == q.hasWill && (eqMs p.wt p.wl p.wq p.wr q.wt q.wl q.wq q.wr && (p.hasUser == q.hasUser && (p.hasPass == q.hasPass && (p.user == q.user && (p.pass == q.pass && (p.present == q.present && (p.code == q.code && (p.codes == q.codes && true))))))))))))))))))))
theorem eqPk_iff (p q : Pk) : eqPk p q = true ↔ p = q := by
  cases p; cases q
  simp [eqPk, eqMs, and_assoc]
section
variable {P : Program} {w : World} {d : Nat} {xs ys : Array Value} {f : Field} {fs : List Field} {s : Bool}
theorem eq_step {a b : Value} {r : Bool} (hn : f.name ≠ "_") (ha : (part f.type xs f.offset).run P w = .ok a w) (hb : (part f.type ys f.offset).run P w = .ok b w) (he : (Op.equalIn d f.type a b).run P w = .ok r w)
    (hs : (Op.eqFields d xs ys fs).run P w = .ok s w) : (Op.eqFields d xs ys (f :: fs)).run P w = .ok (r && s) w := by
  simp only [Op.eqFields, hn, ne_eq, not_false_eq_true, if_true, Sem.run_bind, ha, hb, he, Result.andThen_ok]
  cases r
  · simp
  · simp [hs]
theorem part_cell {t : TypeId} {off : Nat} {v : Value} (ht : (P.underlying t).map (fun d => d.isRow) = some false) (hx : xs[off]? = some v) : (part t xs off).run P w = .ok v w := by
  obtain ⟨d, hu, hd⟩ : ∃ d, P.underlying t = some d ∧ d.isRow = false := by simpa using ht
  have hagg : (isAgg t).run P w = .ok false w := by
    unfold isAgg
    rw [Sem.run_bind, run_underlying hu w]
    cases d <;> simp_all
  unfold part
  rw [Sem.run_bind, hagg]
  simp [hx]
theorem step_int {k k' : IntKind} {a b : Int} (hn : f.name ≠ "_") (ht : P.underlying f.type = some (.int k')) (hx : xs[f.offset]? = some (.int k a)) (hy : ys[f.offset]? = some (.int k b))
    (hs : (Op.eqFields (d + 1) xs ys fs).run P w = .ok s w) : (Op.eqFields (d + 1) xs ys (f :: fs)).run P w = .ok (a == b && s) w :=
  eq_step hn (part_cell (by rw [ht]; rfl) hx) (part_cell (by rw [ht]; rfl) hy) (run_equalIn_int w d _ k k' a b ht) hs
theorem step_bool {a b : Bool} (hn : f.name ≠ "_") (ht : P.underlying f.type = some .bool) (hx : xs[f.offset]? = some (.bool a)) (hy : ys[f.offset]? = some (.bool b))
    (hs : (Op.eqFields (d + 1) xs ys fs).run P w = .ok s w) : (Op.eqFields (d + 1) xs ys (f :: fs)).run P w = .ok (a == b && s) w :=
  eq_step hn (part_cell (by rw [ht]; rfl) hx) (part_cell (by rw [ht]; rfl) hy) (run_equalIn_bool' w d _ a b ht) hs
theorem step_str {a b : List UInt8} (hn : f.name ≠ "_") (ht : P.underlying f.type = some .string) (hx : xs[f.offset]? = some (.string ⟨a.toArray⟩)) (hy : ys[f.offset]? = some (.string ⟨b.toArray⟩))
    (hs : (Op.eqFields (d + 1) xs ys fs).run P w = .ok s w) : (Op.eqFields (d + 1) xs ys (f :: fs)).run P w = .ok (a == b && s) w := by
  refine eq_step (r := a == b) hn (part_cell (by rw [ht]; rfl) hx) (part_cell (by rw [ht]; rfl) hy) ?_ hs
  rw [run_equalIn_string w d _ _ _ ht, ByteArray.toList_eq, ByteArray.toList_eq]
end
section
variable {w : World} {d : Nat}
@[go_sem high] theorem eq_ms (t l : List UInt8) (q : Int) (r : Bool) (t' l' : List UInt8) (q' : Int) (r' : Bool) : (Op.equalIn (d + 2) 33 (.agg (MsC t l q r)) (.agg (MsC t' l' q' r'))).run Tryz.prog w = .ok (eqMs t l q r t' l' q' r') w := by
  rw [run_equalIn_agg w (d + 1) _ _ _ (by kernel_rfl) (by kernel_rfl)]
  simp only [Program.fieldsOf, Tryz.underlying33]
  refine step_str (by decide) (by kernel_rfl) (MsC_0 ..) (MsC_0 ..) ?_
  refine step_str (by decide) (by kernel_rfl) (MsC_1 ..) (MsC_1 ..) ?_
  refine step_int (k' := .u8) (by decide) (by kernel_rfl) (MsC_2 ..) (MsC_2 ..) ?_
  refine step_bool (by decide) (by kernel_rfl) (MsC_3 ..) (MsC_3 ..) ?_
  rfl
theorem part_ms (p : Pk) : (part 33 (ScC p) 12).run Tryz.prog w = .ok (.agg (MsC p.wt p.wl p.wq p.wr)) w := by
  unfold part
  rw [Sem.run_bind, Tryz.isAgg33]
  simp only [Result.andThen_ok, if_true, Sem.run_bind, Tryz.sizeOf33, Sem.run_pure]
  rw [show (ScC p).extract 12 (12 + 4) = MsC p.wt p.wl p.wq p.wr by simp [ScC, MsC]]
set_option maxHeartbeats 1000000 in
@[go_sem high] theorem eq_sc (p q : Pk) : (Op.equalIn (d + 3) 116 (.agg (ScC p)) (.agg (ScC q))).run Tryz.prog w = .ok (eqPk p q) w := by
  rw [run_equalIn_agg w (d + 2) _ _ _ (by kernel_rfl) (by kernel_rfl)]
  simp only [Program.fieldsOf, Tryz.underlying116]
  unfold eqPk
  refine step_int (k' := .u8) (by decide) (by kernel_rfl) (ScC_0 ..) (ScC_0 ..) ?_
  refine step_bool (by decide) (by kernel_rfl) (ScC_1 ..) (ScC_1 ..) ?_
  refine step_int (k' := .u8) (by decide) (by kernel_rfl) (ScC_2 ..) (ScC_2 ..) ?_
  refine step_bool (by decide) (by kernel_rfl) (ScC_3 ..) (ScC_3 ..) ?_
  refine step_int (k' := .u16) (by decide) (by kernel_rfl) (ScC_4 ..) (ScC_4 ..) ?_
  refine step_str (by decide) (by kernel_rfl) (ScC_5 ..) (ScC_5 ..) ?_
  refine step_str (by decide) (by kernel_rfl) (ScC_6 ..) (ScC_6 ..) ?_
  refine step_int (k' := .u8) (by decide) (by kernel_rfl) (ScC_7 ..) (ScC_7 ..) ?_
  refine step_bool (by decide) (by kernel_rfl) (ScC_8 ..) (ScC_8 ..) ?_
  refine step_int (k' := .u16) (by decide) (by kernel_rfl) (ScC_9 ..) (ScC_9 ..) ?_
  refine step_str (by decide) (by kernel_rfl) (ScC_10 ..) (ScC_10 ..) ?_
  refine step_bool (by decide) (by kernel_rfl) (ScC_11 ..) (ScC_11 ..) ?_
  refine eq_step (by decide) (part_ms p) (part_ms q) (eq_ms ..) ?_
  refine step_bool (by decide) (by kernel_rfl) (ScC_16 ..) (ScC_16 ..) ?_
  refine step_bool (by decide) (by kernel_rfl) (ScC_17 ..) (ScC_17 ..) ?_
  refine step_str (by decide) (by kernel_rfl) (ScC_18 ..) (ScC_18 ..) ?_
  refine step_str (by decide) (by kernel_rfl) (ScC_19 ..) (ScC_19 ..) ?_
  refine step_bool (by decide) (by kernel_rfl) (ScC_20 ..) (ScC_20 ..) ?_
  refine step_int (k' := .u8) (by decide) (by kernel_rfl) (ScC_21 ..) (ScC_21 ..) ?_
  refine step_str (by decide) (by kernel_rfl) (ScC_22 ..) (ScC_22 ..) ?_
  rfl
@[go_sem high] theorem eq_sc0 (p q : Pk) : (Op.equalIn 10000 116 (.agg (ScC p)) (.agg (ScC q))).run Tryz.prog w = .ok (eqPk p q) w := eq_sc (d := 9997) p q
@[go_sem high] theorem eq_ms0 (t l : List UInt8) (q : Int) (r : Bool) (t' l' : List UInt8) (q' : Int) (r' : Bool) : (Op.equalIn 10000 33 (.agg (MsC t l q r)) (.agg (MsC t' l' q' r'))).run Tryz.prog w = .ok (eqMs t l q r t' l' q' r') w := eq_ms (d := 9998) ..
end
end Go.Proofs.YtnaedcennichlaaGreatDoor

/-
  Packets: the plain mathematics: names, filters, what a type's fields are.
-/
namespace Go.Proofs.YtnaedcennichlaaGreatDoor

def isW (b : UInt8) : Bool := b == 43 || b == 35
def hasW (l : List UInt8) : Bool := l.any isW
theorem hasW_nil : hasW [] = false := rfl
theorem hasW_cons (b : UInt8) (l : List UInt8) : hasW (b :: l) = (isW b || hasW l) := rfl
def nmB (l : List UInt8) : Bool := !l.isEmpty && (valB l && !hasW l)
def lvB (l : List UInt8) : Bool := l == [43] || !hasW l
def splitL : List UInt8 → List (List UInt8)
  | [] => [[]]
  | c :: r => if c = 47 then [] :: splitL r else match splitL r with
    | [] => [[c]]
    | h :: t => (c :: h) :: t
def levB : List (List UInt8) → Bool
  | [] => false
  | [x] => x == [35] || lvB x
  | x :: y :: t => lvB x && levB (y :: t)
def flB (l : List UInt8) : Bool := !l.isEmpty && (valB l && levB (splitL l))

theorem splitL_ne (l : List UInt8) : ∃ h t, splitL l = h :: t := by
  cases l with
  | nil => exact ⟨[], [], rfl⟩
  | cons c r =>
    by_cases hc : c = 47
    · exact ⟨[], splitL r, by rw [splitL, if_pos hc]⟩
    · rw [splitL, if_neg hc]
      cases splitL r with
      | nil => exact ⟨_, _, rfl⟩
      | cons h t => exact ⟨_, _, rfl⟩
/-- The filter by place: st: does a level begin here? -/
def scanB : Bool → List UInt8 → Bool
  | _, [] => true
  | st, c :: r => (!isW c || (st && (r.isEmpty || (c == 43 && r.head? == some 47)))) && scanB (c == 47) r
/-- What follows in a level that has begun. -/
def goB : List (List UInt8) → Bool
  | [] => false
  | [h] => !hasW h
  | h :: y :: t => !hasW h && levB (y :: t)
theorem splitL_empty (r : List UInt8) (h : List UInt8) (t : List (List UInt8)) (e : splitL r = h :: t) : (h = [] ↔ (r = [] ∨ r.head? = some 47)) ∧ (r = [] → t = []) ∧ (t = [] ∧ h = [] → r = []) := by
  cases r with
  | nil => cases e; simp
  | cons c r =>
    by_cases hc : c = 47
    · rw [splitL, if_pos hc] at e
      injection e with e1 e2
      subst e1
      obtain ⟨h', t', e'⟩ := splitL_ne r
      rw [e'] at e2
      subst e2 hc
      simp
    · rw [splitL, if_neg hc] at e
      obtain ⟨h', t', e'⟩ := splitL_ne r
      rw [e'] at e
      injection e with e1 e2
      subst e1
      simp [hc]
theorem scan_lev (l : List UInt8) : scanB true l = levB (splitL l) ∧ scanB false l = goB (splitL l) := by
  induction l with
  | nil => exact ⟨rfl, rfl⟩
  | cons c r ih =>
    obtain ⟨h, t, e⟩ := splitL_ne r
    obtain ⟨k1, k2, k3⟩ := splitL_empty r h t e
    rw [e] at ih
    by_cases hc : c = 47
    · subst hc
      rw [splitL, if_pos rfl, e]
      have e1 : scanB true r = levB (h :: t) := ih.1
      have e2 : ((47 : UInt8) == 47) = true := rfl
      simp only [scanB, levB, goB, isW, lvB, hasW_nil, e2, e1]
      simp
    · have hc' : (c == 47) = false := by simpa using hc
      rw [splitL, if_neg hc, e]
      simp only [scanB, hc', ih.2]
      by_cases h1 : c = 43
      · subst h1
        have k1' : (r.isEmpty || r.head? == some 47) = (h == []) := by
          rw [Bool.eq_iff_iff]; simp [k1]
        cases t with
        | nil =>
          simp only [levB, goB, lvB, hasW_cons, isW]
          cases h with
          | nil => simp [k1', hasW]
          | cons a h =>
            have : ¬ (r = [] ∨ r.head? = some 47) := fun x => by have := k1.2 x; cases this
            simp at this
            simp [this]
        | cons y t =>
          simp only [levB, goB, lvB, hasW_cons, isW]
          cases h with
          | nil => simp [hasW]; have := k1.1 rfl; intro _; simpa using this
          | cons a h =>
            have : ¬ (r = [] ∨ r.head? = some 47) := fun x => by have := k1.2 x; cases this
            simp at this
            simp [this]
      · by_cases h2 : c = 35
        · subst h2
          cases t with
          | nil =>
            cases h with
            | nil =>
              have := k3 ⟨rfl, rfl⟩
              subst this
              simp [levB, goB, lvB, hasW, isW]
            | cons a h =>
              have : r ≠ [] := fun x => by have := k1.2 (Or.inl x); cases this
              simp [levB, goB, lvB, hasW_cons, isW, this]
          | cons y t =>
            have : r ≠ [] := fun x => by have := k2 x; cases this
            simp [levB, goB, lvB, hasW_cons, isW, this]
        · have hw : isW c = false := by simp [isW, h1, h2]
          have h1' : (c == 43) = false := by simpa using h1
          have h2' : (c == 35) = false := by simpa using h2
          cases t with
          | nil => simp [levB, goB, lvB, hasW_cons, hw, h1', h2']
          | cons y t => simp [levB, goB, lvB, hasW_cons, hw, h1', h2']
end Go.Proofs.YtnaedcennichlaaGreatDoor

/-
  What packet answers, as plain functions.
-/
namespace Go.Proofs.YtnaedcennichlaaGreatDoor

def fldB (l : List UInt8) : Int := (l.length : Int) + 2
def isCd (b : UInt8) : Bool := decide (b.toNat ≤ 2) || b.toNat == 128
def cdB (l : List UInt8) : Bool := !l.isEmpty && l.all isCd
def lgB (p : Pk) : Bool := ((p.user.isEmpty || (p.hasUser && valB p.user)) && (p.pass.isEmpty || (p.hasPass && decide (p.pass.length ≤ 65535)))) && (p.hasUser || !p.hasPass)
def wlB (p : Pk) : Bool := if p.hasWill then nmB p.wt && (decide (p.wl.length ≤ 65535) && decide (p.wq ≤ 2)) else eqMs p.wt p.wl p.wq p.wr [] [] 0 false
def conR (p : Pk) : Bool := p.level == 4 && (valB p.client && (wlB p && lgB p))
def conB (p : Pk) : Int := 10 + fldB p.client + (if p.hasWill then fldB p.wt + fldB p.wl else 0) + (if p.hasUser then fldB p.user else 0) + (if p.hasPass then fldB p.pass else 0)
def conL (p : Pk) : Pk := (((((((((((p.s_level 0).s_clean false).s_keep 0).s_client []).s_hasWill false).s_will [] [] 0 false).s_hasUser false).s_user []).s_hasPass false).s_pass []))
def ackR (p : Pk) : Bool := decide (p.code ≤ 5) && (p.code == 0 || !p.present)
def ackL (p : Pk) : Pk := (p.s_present false).s_code 0
def pubR (p : Pk) : Bool := (nmB p.topic && decide (p.qos ≤ 2)) && (decide (p.qos ≤ 0) || decide (0 < p.id))
def pubB (p : Pk) : Int := fldB p.topic + p.load.length + (if 0 < p.qos then 2 else 0)
def pubL (p : Pk) : Pk := ((((if 0 < p.qos then (p.s_id 0).s_dup false else p).s_topic []).s_load []).s_qos 0).s_ret false
/-- Subs, to one way: are they right? -/
def sbR (top : Int) (xs : List (List UInt8 × Int)) : Bool := !xs.isEmpty && xs.all fun x => flB x.1 && decide (x.2 ≤ top)
def sbB (add : Int) : List (List UInt8 × Int) → Int
  | [] => 0
  | x :: r => (fldB x.1 + add) + sbB add r
def takeR (p : Pk) (xs : List (List UInt8 × Int)) : Bool :=
  if p.ty = 1 then conR p else if p.ty = 2 then ackR p else if p.ty = 3 then pubR p else if p.ty = 8 then decide (0 < p.id) && sbR 2 xs else if p.ty = 9 then decide (0 < p.id) && cdB p.codes else if p.ty = 10 then decide (0 < p.id) && sbR 0 xs
  else if p.ty = 4 ∨ p.ty = 5 ∨ p.ty = 6 ∨ p.ty = 7 ∨ p.ty = 11 then decide (0 < p.id) else if p.ty = 12 ∨ p.ty = 13 ∨ p.ty = 14 then true else false
def takeB (p : Pk) (xs : List (List UInt8 × Int)) : Int :=
  if p.ty = 1 then conB p else if p.ty = 2 then 2 else if p.ty = 3 then pubB p else if p.ty = 8 then 2 + sbB 1 xs else if p.ty = 9 then 2 + p.codes.length else if p.ty = 10 then 2 + sbB 0 xs
  else if p.ty = 4 ∨ p.ty = 5 ∨ p.ty = 6 ∨ p.ty = 7 ∨ p.ty = 11 then 2 else 0
def takeL (p : Pk) : Pk :=
  if p.ty = 1 then conL p else if p.ty = 2 then ackL p else if p.ty = 3 then pubL p else if p.ty = 8 then p.s_id 0 else if p.ty = 9 then (p.s_id 0).s_codes [] else if p.ty = 10 then p.s_id 0
  else if p.ty = 4 ∨ p.ty = 5 ∨ p.ty = 6 ∨ p.ty = 7 ∨ p.ty = 11 then p.s_id 0 else p
/-- How many Subs are left. -/
def takeN (p : Pk) (n : Nat) : Nat := if p.ty = 8 ∨ p.ty = 10 then 0 else n
def restN (p : Pk) (xs : List (List UInt8 × Int)) : Int :=
  if (takeR p xs && decide (takeB p xs ≤ 268435455)) && (eqPk ((takeL p).s_ty 0) zPk && takeN p xs.length == 0) then takeB p xs else -1
/-- The sum of a packet's texts. -/
def sumB : List (List UInt8 × Int) → Nat
  | [] => 0
  | x :: r => x.1.length + sumB r
def totB (p : Pk) (xs : List (List UInt8 × Int)) : Nat := p.topic.length + (p.load.length + (p.client.length + (p.wt.length + (p.wl.length + (p.user.length + (p.pass.length + (p.codes.length + sumB xs)))))))
/-- A packet that the walks go through: its numbers are bytes and words, its texts are not too long. -/
structure Fit (p : Pk) (xs : List (List UInt8 × Int)) : Prop where
  ty : 0 ≤ p.ty ∧ p.ty ≤ 255
  qos : 0 ≤ p.qos ∧ p.qos ≤ 255
  id : 0 ≤ p.id ∧ p.id ≤ 65535
  level : 0 ≤ p.level ∧ p.level ≤ 255
  keep : 0 ≤ p.keep ∧ p.keep ≤ 65535
  wq : 0 ≤ p.wq ∧ p.wq ≤ 255
  code : 0 ≤ p.code ∧ p.code ≤ 255
  tot : totB p xs ≤ 90000
  num : xs.length ≤ 50000
  sub : ∀ x ∈ xs, 0 ≤ x.2 ∧ x.2 ≤ 255
theorem sbB_bd (add : Int) (h0 : 0 ≤ add) : ∀ xs, 0 ≤ sbB add xs ∧ sbB add xs = (sumB xs : Int) + (2 + add) * xs.length
  | [] => ⟨Int.le_refl _, by simp [sbB, sumB]⟩
  | x :: r => by
    have ⟨h1, h2⟩ := sbB_bd add h0 r
    simp only [sbB, sumB, fldB, List.length_cons]
    refine ⟨by omega, ?_⟩
    rw [h2]
    have : (2 + add) * ((r.length + 1 : Nat) : Int) = (2 + add) * (r.length : Int) + (2 + add) := by rw [Int.natCast_add]; simp [Int.mul_add]
    rw [this]
    simp only [Int.natCast_add]
    omega
theorem sumB_mem : ∀ (xs : List (List UInt8 × Int)) x, x ∈ xs → x.1.length ≤ sumB xs
  | [], _, h => by cases h
  | y :: r, x, h => by
    rcases List.mem_cons.1 h with rfl | h
    · simp [sumB]
    · have := sumB_mem r x h; simp [sumB]; omega
end Go.Proofs.YtnaedcennichlaaGreatDoor

/-
  Names and filters: the plain mathematics of packet's statements.
-/
namespace Go.Proofs.YtnaedcennichlaaGreatDoor

theorem flB_scan (l : List UInt8) : flB l = (!l.isEmpty && (valB l && scanB true l)) := by rw [flB, (scan_lev l).1]
end Go.Proofs.YtnaedcennichlaaGreatDoor

/-
  How a packet's rest grows: the plain mathematics of PacketRests.
-/
namespace Go.Proofs.YtnaedcennichlaaGreatDoor

theorem rest_pos {c : Bool} {b v : Int} (h : (if c then b else -1) = v) (hv : 0 ≤ v) : c = true ∧ b = v := by
  cases c with
  | true => exact ⟨rfl, by simpa using h⟩
  | false => simp at h; omega
theorem pubL_pos (p : Pk) (h : 0 < p.qos) : pubL p = (((((p.s_id 0).s_dup false).s_topic []).s_load []).s_qos 0).s_ret false := by rw [pubL, if_pos h]
theorem pubL_neg (p : Pk) (h : ¬ 0 < p.qos) : pubL p = (((p.s_topic []).s_load []).s_qos 0).s_ret false := by rw [pubL, if_neg h]
end Go.Proofs.YtnaedcennichlaaGreatDoor
