/-
  The document's own Same: when two packets are one.
-/
import Derived.Test.YtphdooaihbmnlaaGreatDoorPkS
import Derived.Test.YtphdooaihbmnlaaGreatDoorPkS2
import Derived.Test.YtphdooaihbmnlaaGreatDoorPkT
import Derived.Test.YtphdooaihbmnlaaGreatDoorPkU
import Derived.Test.YtphdooaihbmnlaaGreatDoorPkV
set_option linter.unusedSimpArgs false
set_option linter.unusedVariables false
namespace Go.Proofs.YtphdooaihbmnlaaGreatDoor
open Go.RowKit
theorem same_no {p q : Pk} {xs ys : List (List UInt8 × Int)} (h : p = q → False) : (eqPk p q && xs == ys) = false := by
  have : eqPk p q = false := by
    cases he : eqPk p q with
    | false => rfl
    | true => exact (h ((eqPk_iff p q).1 he)).elim
  rw [this, Bool.false_and]
theorem refSame_any (p q : Pk) (A B : Option Addr) (n c m d : Nat) (xs ys : List (List UInt8 × Int)) (w : World) (hx : Subs w A n xs) (hy : Subs w B m ys) (hn : n ≤ 1000) :
    Calls Tryz.prog 27 #[.agg (PkC p A n c), .agg (PkC q B m d)] w fun e w' => e = .returned (.bool (eqPk p q && xs == ys)) ∧ Below w.heap.size w w' := by
  by_cases e0 : p.ty = q.ty
  rotate_left
  · rw [same_no (fun h => e0 (by rw [h]))]; exact refSame_ne_ty p q A B n c m d w  e0
  by_cases e1 : p.dup = q.dup
  rotate_left
  · rw [same_no (fun h => e1 (by rw [h]))]; exact refSame_ne_dup p q A B n c m d w e0 e1
  by_cases e2 : p.qos = q.qos
  rotate_left
  · rw [same_no (fun h => e2 (by rw [h]))]; exact refSame_ne_qos p q A B n c m d w e0 e1 e2
  by_cases e3 : p.ret = q.ret
  rotate_left
  · rw [same_no (fun h => e3 (by rw [h]))]; exact refSame_ne_ret p q A B n c m d w e0 e1 e2 e3
  by_cases e4 : p.id = q.id
  rotate_left
  · rw [same_no (fun h => e4 (by rw [h]))]; exact refSame_ne_id p q A B n c m d w e0 e1 e2 e3 e4
  by_cases e5 : p.topic = q.topic
  rotate_left
  · rw [same_no (fun h => e5 (by rw [h]))]; exact refSame_ne_topic p q A B n c m d w e0 e1 e2 e3 e4 e5
  by_cases e6 : p.load = q.load
  rotate_left
  · rw [same_no (fun h => e6 (by rw [h]))]; exact refSame_ne_load p q A B n c m d w e0 e1 e2 e3 e4 e5 e6
  by_cases e7 : p.level = q.level
  rotate_left
  · rw [same_no (fun h => e7 (by rw [h]))]; exact refSame_ne_level p q A B n c m d w e0 e1 e2 e3 e4 e5 e6 e7
  by_cases e8 : p.clean = q.clean
  rotate_left
  · rw [same_no (fun h => e8 (by rw [h]))]; exact refSame_ne_clean p q A B n c m d w e0 e1 e2 e3 e4 e5 e6 e7 e8
  by_cases e9 : p.keep = q.keep
  rotate_left
  · rw [same_no (fun h => e9 (by rw [h]))]; exact refSame_ne_keep p q A B n c m d w e0 e1 e2 e3 e4 e5 e6 e7 e8 e9
  by_cases e10 : p.client = q.client
  rotate_left
  · rw [same_no (fun h => e10 (by rw [h]))]; exact refSame_ne_client p q A B n c m d w e0 e1 e2 e3 e4 e5 e6 e7 e8 e9 e10
  by_cases e11 : p.hasWill = q.hasWill
  rotate_left
  · rw [same_no (fun h => e11 (by rw [h]))]; exact refSame_ne_hasWill p q A B n c m d w e0 e1 e2 e3 e4 e5 e6 e7 e8 e9 e10 e11
  cases e12 : eqMs p.wt p.wl p.wq p.wr q.wt q.wl q.wq q.wr with
  | false => rw [same_no (fun h => by subst h; simp [eqMs] at e12)]; exact refSame_ne_WILL p q A B n c m d w e0 e1 e2 e3 e4 e5 e6 e7 e8 e9 e10 e11 e12
  | true =>
  by_cases e13 : p.hasUser = q.hasUser
  rotate_left
  · rw [same_no (fun h => e13 (by rw [h]))]; exact refSame_ne_hasUser p q A B n c m d w e0 e1 e2 e3 e4 e5 e6 e7 e8 e9 e10 e11 e12 e13
  by_cases e14 : p.hasPass = q.hasPass
  rotate_left
  · rw [same_no (fun h => e14 (by rw [h]))]; exact refSame_ne_hasPass p q A B n c m d w e0 e1 e2 e3 e4 e5 e6 e7 e8 e9 e10 e11 e12 e13 e14
  by_cases e15 : p.user = q.user
  rotate_left
  · rw [same_no (fun h => e15 (by rw [h]))]; exact refSame_ne_user p q A B n c m d w e0 e1 e2 e3 e4 e5 e6 e7 e8 e9 e10 e11 e12 e13 e14 e15
  by_cases e16 : p.pass = q.pass
  rotate_left
  · rw [same_no (fun h => e16 (by rw [h]))]; exact refSame_ne_pass p q A B n c m d w e0 e1 e2 e3 e4 e5 e6 e7 e8 e9 e10 e11 e12 e13 e14 e15 e16
  by_cases e17 : p.present = q.present
  rotate_left
  · rw [same_no (fun h => e17 (by rw [h]))]; exact refSame_ne_present p q A B n c m d w e0 e1 e2 e3 e4 e5 e6 e7 e8 e9 e10 e11 e12 e13 e14 e15 e16 e17
  by_cases e18 : p.code = q.code
  rotate_left
  · rw [same_no (fun h => e18 (by rw [h]))]; exact refSame_ne_code p q A B n c m d w e0 e1 e2 e3 e4 e5 e6 e7 e8 e9 e10 e11 e12 e13 e14 e15 e16 e17 e18
  by_cases e19 : p.codes = q.codes
  rotate_left
  · rw [same_no (fun h => e19 (by rw [h]))]; exact refSame_ne_codes p q A B n c m d w e0 e1 e2 e3 e4 e5 e6 e7 e8 e9 e10 e11 e12 e13 e14 e15 e16 e17 e18 e19
  by_cases e20 : n = m
  · subst e20
    have hpq : p = q := (eqPk_iff p q).1 (by unfold eqPk; rw [e12, e0, e1, e2, e3, e4, e5, e6, e7, e8, e9, e10, e11, e13, e14, e15, e16, e17, e18, e19]; simp)
    subst hpq
    rw [(eqPk_iff p p).2 rfl, Bool.true_and]
    exact refSame_self p A B n c d xs ys w hx hy hn
  · have hf : (xs == ys) = false := by
      rw [beq_eq_false_iff_ne]
      rintro rfl
      have := hx.len; have := hy.len; omega
    rw [hf, Bool.and_false]
    exact refSame_ne_LEN p q A B n c m d w e0 e1 e2 e3 e4 e5 e6 e7 e8 e9 e10 e11 e12 e13 e14 e15 e16 e17 e18 e19 e20
theorem refSame_eq (p q : Pk) (A B : Option Addr) (n c m d : Nat) (xs ys : List (List UInt8 × Int)) (r : Bool) (w : World) (hx : Subs w A n xs) (hy : Subs w B m ys) (hn : n ≤ 1000) (h : (eqPk p q && xs == ys) = r) :
    Calls Tryz.prog 27 #[.agg (PkC p A n c), .agg (PkC q B m d)] w fun e w' => e = .returned (.bool r) ∧ Below w.heap.size w w' := h ▸ refSame_any p q A B n c m d xs ys w hx hy hn
end Go.Proofs.YtphdooaihbmnlaaGreatDoor
