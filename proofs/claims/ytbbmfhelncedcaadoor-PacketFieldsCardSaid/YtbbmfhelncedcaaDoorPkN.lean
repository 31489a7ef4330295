/-
  PacketFields: the plain mathematics.
-/
import Derived.Test.YtbbmfhelncedcaaDoorPkM
import Derived.Test.YtbbmfhelncedcaaDoorPkRestsM
import Derived.Test.YtbbmfhelncedcaaDoorPkGreat
set_option linter.unusedSimpArgs false
set_option linter.unusedVariables false
namespace Go.Proofs.YtbbmfhelncedcaaDoor
open Go.RowKit
namespace lawPacketFields
theorem zero_of {p : Pk} {xs : List (List UInt8 × Int)} {v : Int} (h : restN p xs = v) (hv : 0 ≤ v) : (takeL p).s_ty 0 = zPk ∧ takeR p xs = true ∧ takeB p xs = v ∧ takeN p xs.length = 0 := by
  unfold restN at h
  obtain ⟨h1, h2⟩ := rest_pos h hv
  simp only [Bool.and_eq_true, beq_iff_eq, eqPk_iff] at h1
  exact ⟨h1.2.1, h1.1.1, h2, h1.2.2⟩
theorem neg_of {p : Pk} {xs : List (List UInt8 × Int)} (h : (takeL p).s_ty 0 = zPk → False) : restN p xs = -1 := by
  unfold restN
  have : eqPk ((takeL p).s_ty 0) zPk = false := by
    cases he : eqPk ((takeL p).s_ty 0) zPk with
    | false => rfl
    | true => exact (h ((eqPk_iff _ _).1 he)).elim
  rw [this]
  simp
theorem ty_of {p : Pk} {xs : List (List UInt8 × Int)} (h : takeR p xs = true) : 1 ≤ p.ty ∧ p.ty ≤ 14 := by
  unfold takeR at h
  repeat' split at h
  all_goals first | omega | cases h
/-- The type's letter. -/
def letF (t : Int) : Int := if t < 10 then 48 + t else 87 + t
def itsB (t : Int) (f : Nat) : Bool := (moreS f).any fun b => (b.toNat : Int) == letF t
theorem letF_in (t : Int) (h : 0 ≤ t ∧ t ≤ 15) : 48 ≤ letF t ∧ letF t ≤ 102 := by unfold letF; split <;> omega
theorem takeL_dup (p : Pk) (h : ¬ p.ty = 3) : (takeL p).dup = p.dup := by
  cases p
  simp only [takeL, conL, ackL, pubL, Pk.s_ty, Pk.s_dup, Pk.s_qos, Pk.s_ret, Pk.s_id, Pk.s_topic, Pk.s_load, Pk.s_level, Pk.s_clean, Pk.s_keep, Pk.s_client, Pk.s_hasWill, Pk.s_will, Pk.s_hasUser, Pk.s_hasPass, Pk.s_user, Pk.s_pass, Pk.s_present, Pk.s_code, Pk.s_codes, apply_ite Pk.dup, ite_self] at h ⊢
  repeat' split
  all_goals first | rfl | (exfalso; omega)
theorem takeL_qos (p : Pk) (h : ¬ p.ty = 3) : (takeL p).qos = p.qos := by
  cases p
  simp only [takeL, conL, ackL, pubL, Pk.s_ty, Pk.s_dup, Pk.s_qos, Pk.s_ret, Pk.s_id, Pk.s_topic, Pk.s_load, Pk.s_level, Pk.s_clean, Pk.s_keep, Pk.s_client, Pk.s_hasWill, Pk.s_will, Pk.s_hasUser, Pk.s_hasPass, Pk.s_user, Pk.s_pass, Pk.s_present, Pk.s_code, Pk.s_codes, apply_ite Pk.qos, ite_self] at h ⊢
  repeat' split
  all_goals first | rfl | (exfalso; omega)
theorem takeL_ret (p : Pk) (h : ¬ p.ty = 3) : (takeL p).ret = p.ret := by
  cases p
  simp only [takeL, conL, ackL, pubL, Pk.s_ty, Pk.s_dup, Pk.s_qos, Pk.s_ret, Pk.s_id, Pk.s_topic, Pk.s_load, Pk.s_level, Pk.s_clean, Pk.s_keep, Pk.s_client, Pk.s_hasWill, Pk.s_will, Pk.s_hasUser, Pk.s_hasPass, Pk.s_user, Pk.s_pass, Pk.s_present, Pk.s_code, Pk.s_codes, apply_ite Pk.ret, ite_self] at h ⊢
  repeat' split
  all_goals first | rfl | (exfalso; omega)
theorem takeL_id (p : Pk) (h : ¬ (3 ≤ p.ty ∧ p.ty ≤ 11)) : (takeL p).id = p.id := by
  cases p
  simp only [takeL, conL, ackL, pubL, Pk.s_ty, Pk.s_dup, Pk.s_qos, Pk.s_ret, Pk.s_id, Pk.s_topic, Pk.s_load, Pk.s_level, Pk.s_clean, Pk.s_keep, Pk.s_client, Pk.s_hasWill, Pk.s_will, Pk.s_hasUser, Pk.s_hasPass, Pk.s_user, Pk.s_pass, Pk.s_present, Pk.s_code, Pk.s_codes, apply_ite Pk.id, ite_self] at h ⊢
  repeat' split
  all_goals first | rfl | (exfalso; omega)
theorem takeL_topic (p : Pk) (h : ¬ p.ty = 3) : (takeL p).topic = p.topic := by
  cases p
  simp only [takeL, conL, ackL, pubL, Pk.s_ty, Pk.s_dup, Pk.s_qos, Pk.s_ret, Pk.s_id, Pk.s_topic, Pk.s_load, Pk.s_level, Pk.s_clean, Pk.s_keep, Pk.s_client, Pk.s_hasWill, Pk.s_will, Pk.s_hasUser, Pk.s_hasPass, Pk.s_user, Pk.s_pass, Pk.s_present, Pk.s_code, Pk.s_codes, apply_ite Pk.topic, ite_self] at h ⊢
  repeat' split
  all_goals first | rfl | (exfalso; omega)
theorem takeL_load (p : Pk) (h : ¬ p.ty = 3) : (takeL p).load = p.load := by
  cases p
  simp only [takeL, conL, ackL, pubL, Pk.s_ty, Pk.s_dup, Pk.s_qos, Pk.s_ret, Pk.s_id, Pk.s_topic, Pk.s_load, Pk.s_level, Pk.s_clean, Pk.s_keep, Pk.s_client, Pk.s_hasWill, Pk.s_will, Pk.s_hasUser, Pk.s_hasPass, Pk.s_user, Pk.s_pass, Pk.s_present, Pk.s_code, Pk.s_codes, apply_ite Pk.load, ite_self] at h ⊢
  repeat' split
  all_goals first | rfl | (exfalso; omega)
theorem takeL_level (p : Pk) (h : ¬ p.ty = 1) : (takeL p).level = p.level := by
  cases p
  simp only [takeL, conL, ackL, pubL, Pk.s_ty, Pk.s_dup, Pk.s_qos, Pk.s_ret, Pk.s_id, Pk.s_topic, Pk.s_load, Pk.s_level, Pk.s_clean, Pk.s_keep, Pk.s_client, Pk.s_hasWill, Pk.s_will, Pk.s_hasUser, Pk.s_hasPass, Pk.s_user, Pk.s_pass, Pk.s_present, Pk.s_code, Pk.s_codes, apply_ite Pk.level, ite_self] at h ⊢
  repeat' split
  all_goals first | rfl | (exfalso; omega)
theorem takeL_clean (p : Pk) (h : ¬ p.ty = 1) : (takeL p).clean = p.clean := by
  cases p
  simp only [takeL, conL, ackL, pubL, Pk.s_ty, Pk.s_dup, Pk.s_qos, Pk.s_ret, Pk.s_id, Pk.s_topic, Pk.s_load, Pk.s_level, Pk.s_clean, Pk.s_keep, Pk.s_client, Pk.s_hasWill, Pk.s_will, Pk.s_hasUser, Pk.s_hasPass, Pk.s_user, Pk.s_pass, Pk.s_present, Pk.s_code, Pk.s_codes, apply_ite Pk.clean, ite_self] at h ⊢
  repeat' split
  all_goals first | rfl | (exfalso; omega)
theorem takeL_keep (p : Pk) (h : ¬ p.ty = 1) : (takeL p).keep = p.keep := by
  cases p
  simp only [takeL, conL, ackL, pubL, Pk.s_ty, Pk.s_dup, Pk.s_qos, Pk.s_ret, Pk.s_id, Pk.s_topic, Pk.s_load, Pk.s_level, Pk.s_clean, Pk.s_keep, Pk.s_client, Pk.s_hasWill, Pk.s_will, Pk.s_hasUser, Pk.s_hasPass, Pk.s_user, Pk.s_pass, Pk.s_present, Pk.s_code, Pk.s_codes, apply_ite Pk.keep, ite_self] at h ⊢
  repeat' split
  all_goals first | rfl | (exfalso; omega)
theorem takeL_client (p : Pk) (h : ¬ p.ty = 1) : (takeL p).client = p.client := by
  cases p
  simp only [takeL, conL, ackL, pubL, Pk.s_ty, Pk.s_dup, Pk.s_qos, Pk.s_ret, Pk.s_id, Pk.s_topic, Pk.s_load, Pk.s_level, Pk.s_clean, Pk.s_keep, Pk.s_client, Pk.s_hasWill, Pk.s_will, Pk.s_hasUser, Pk.s_hasPass, Pk.s_user, Pk.s_pass, Pk.s_present, Pk.s_code, Pk.s_codes, apply_ite Pk.client, ite_self] at h ⊢
  repeat' split
  all_goals first | rfl | (exfalso; omega)
theorem takeL_hasWill (p : Pk) (h : ¬ p.ty = 1) : (takeL p).hasWill = p.hasWill := by
  cases p
  simp only [takeL, conL, ackL, pubL, Pk.s_ty, Pk.s_dup, Pk.s_qos, Pk.s_ret, Pk.s_id, Pk.s_topic, Pk.s_load, Pk.s_level, Pk.s_clean, Pk.s_keep, Pk.s_client, Pk.s_hasWill, Pk.s_will, Pk.s_hasUser, Pk.s_hasPass, Pk.s_user, Pk.s_pass, Pk.s_present, Pk.s_code, Pk.s_codes, apply_ite Pk.hasWill, ite_self] at h ⊢
  repeat' split
  all_goals first | rfl | (exfalso; omega)
theorem takeL_wr (p : Pk) (h : ¬ p.ty = 1) : (takeL p).wr = p.wr := by
  cases p
  simp only [takeL, conL, ackL, pubL, Pk.s_ty, Pk.s_dup, Pk.s_qos, Pk.s_ret, Pk.s_id, Pk.s_topic, Pk.s_load, Pk.s_level, Pk.s_clean, Pk.s_keep, Pk.s_client, Pk.s_hasWill, Pk.s_will, Pk.s_hasUser, Pk.s_hasPass, Pk.s_user, Pk.s_pass, Pk.s_present, Pk.s_code, Pk.s_codes, apply_ite Pk.wr, ite_self] at h ⊢
  repeat' split
  all_goals first | rfl | (exfalso; omega)
theorem takeL_user (p : Pk) (h : ¬ p.ty = 1) : (takeL p).user = p.user := by
  cases p
  simp only [takeL, conL, ackL, pubL, Pk.s_ty, Pk.s_dup, Pk.s_qos, Pk.s_ret, Pk.s_id, Pk.s_topic, Pk.s_load, Pk.s_level, Pk.s_clean, Pk.s_keep, Pk.s_client, Pk.s_hasWill, Pk.s_will, Pk.s_hasUser, Pk.s_hasPass, Pk.s_user, Pk.s_pass, Pk.s_present, Pk.s_code, Pk.s_codes, apply_ite Pk.user, ite_self] at h ⊢
  repeat' split
  all_goals first | rfl | (exfalso; omega)
theorem takeL_hasUser (p : Pk) (h : ¬ p.ty = 1) : (takeL p).hasUser = p.hasUser := by
  cases p
  simp only [takeL, conL, ackL, pubL, Pk.s_ty, Pk.s_dup, Pk.s_qos, Pk.s_ret, Pk.s_id, Pk.s_topic, Pk.s_load, Pk.s_level, Pk.s_clean, Pk.s_keep, Pk.s_client, Pk.s_hasWill, Pk.s_will, Pk.s_hasUser, Pk.s_hasPass, Pk.s_user, Pk.s_pass, Pk.s_present, Pk.s_code, Pk.s_codes, apply_ite Pk.hasUser, ite_self] at h ⊢
  repeat' split
  all_goals first | rfl | (exfalso; omega)
theorem takeL_pass (p : Pk) (h : ¬ p.ty = 1) : (takeL p).pass = p.pass := by
  cases p
  simp only [takeL, conL, ackL, pubL, Pk.s_ty, Pk.s_dup, Pk.s_qos, Pk.s_ret, Pk.s_id, Pk.s_topic, Pk.s_load, Pk.s_level, Pk.s_clean, Pk.s_keep, Pk.s_client, Pk.s_hasWill, Pk.s_will, Pk.s_hasUser, Pk.s_hasPass, Pk.s_user, Pk.s_pass, Pk.s_present, Pk.s_code, Pk.s_codes, apply_ite Pk.pass, ite_self] at h ⊢
  repeat' split
  all_goals first | rfl | (exfalso; omega)
theorem takeL_present (p : Pk) (h : ¬ p.ty = 2) : (takeL p).present = p.present := by
  cases p
  simp only [takeL, conL, ackL, pubL, Pk.s_ty, Pk.s_dup, Pk.s_qos, Pk.s_ret, Pk.s_id, Pk.s_topic, Pk.s_load, Pk.s_level, Pk.s_clean, Pk.s_keep, Pk.s_client, Pk.s_hasWill, Pk.s_will, Pk.s_hasUser, Pk.s_hasPass, Pk.s_user, Pk.s_pass, Pk.s_present, Pk.s_code, Pk.s_codes, apply_ite Pk.present, ite_self] at h ⊢
  repeat' split
  all_goals first | rfl | (exfalso; omega)
theorem takeL_code (p : Pk) (h : ¬ p.ty = 2) : (takeL p).code = p.code := by
  cases p
  simp only [takeL, conL, ackL, pubL, Pk.s_ty, Pk.s_dup, Pk.s_qos, Pk.s_ret, Pk.s_id, Pk.s_topic, Pk.s_load, Pk.s_level, Pk.s_clean, Pk.s_keep, Pk.s_client, Pk.s_hasWill, Pk.s_will, Pk.s_hasUser, Pk.s_hasPass, Pk.s_user, Pk.s_pass, Pk.s_present, Pk.s_code, Pk.s_codes, apply_ite Pk.code, ite_self] at h ⊢
  repeat' split
  all_goals first | rfl | (exfalso; omega)
theorem takeL_codes (p : Pk) (h : ¬ p.ty = 9) : (takeL p).codes = p.codes := by
  cases p
  simp only [takeL, conL, ackL, pubL, Pk.s_ty, Pk.s_dup, Pk.s_qos, Pk.s_ret, Pk.s_id, Pk.s_topic, Pk.s_load, Pk.s_level, Pk.s_clean, Pk.s_keep, Pk.s_client, Pk.s_hasWill, Pk.s_will, Pk.s_hasUser, Pk.s_hasPass, Pk.s_user, Pk.s_pass, Pk.s_present, Pk.s_code, Pk.s_codes, apply_ite Pk.codes, ite_self] at h ⊢
  repeat' split
  all_goals first | rfl | (exfalso; omega)
theorem more_neg_0 {p : Pk} {xs : List (List UInt8 × Int)} {v : Int} (h : restN p xs = v) (hv : 0 ≤ v) (hi : itsB p.ty 0 = false) : restN (moreP p 0) xs = -1 := by
  have hz := (zero_of h hv).1
  have hc : ¬ p.ty = 3 := by
    intro e
    rw [e] at hi
    revert hi
    decide
  have z1 : p.dup = zPk.dup := by rw [← takeL_dup p hc, ← hz]; rfl
  refine neg_of (fun e => ?_)
  have z2 : (takeL (moreP p 0)).dup = zPk.dup := by rw [← e]; rfl
  rw [takeL_dup (moreP p 0) hc] at z2
  change (!p.dup) = zPk.dup at z2
  rw [z1] at z2; cases z2
theorem more_neg_1 {p : Pk} {xs : List (List UInt8 × Int)} {v : Int} (h : restN p xs = v) (hv : 0 ≤ v) (hi : itsB p.ty 1 = false) : restN (moreP p 1) xs = -1 := by
  have hz := (zero_of h hv).1
  have hc : ¬ p.ty = 3 := by
    intro e
    rw [e] at hi
    revert hi
    decide
  have z1 : p.qos = zPk.qos := by rw [← takeL_qos p hc, ← hz]; rfl
  refine neg_of (fun e => ?_)
  have z2 : (takeL (moreP p 1)).qos = zPk.qos := by rw [← e]; rfl
  rw [takeL_qos (moreP p 1) hc] at z2
  change (inc8 p.qos) = zPk.qos at z2
  rw [z1] at z2; revert z2; decide
theorem more_neg_2 {p : Pk} {xs : List (List UInt8 × Int)} {v : Int} (h : restN p xs = v) (hv : 0 ≤ v) (hi : itsB p.ty 2 = false) : restN (moreP p 2) xs = -1 := by
  have hz := (zero_of h hv).1
  have hc : ¬ p.ty = 3 := by
    intro e
    rw [e] at hi
    revert hi
    decide
  have z1 : p.ret = zPk.ret := by rw [← takeL_ret p hc, ← hz]; rfl
  refine neg_of (fun e => ?_)
  have z2 : (takeL (moreP p 2)).ret = zPk.ret := by rw [← e]; rfl
  rw [takeL_ret (moreP p 2) hc] at z2
  change (!p.ret) = zPk.ret at z2
  rw [z1] at z2; cases z2
theorem more_neg_3 {p : Pk} {xs : List (List UInt8 × Int)} {v : Int} (h : restN p xs = v) (hv : 0 ≤ v) (hi : itsB p.ty 3 = false) : restN (moreP p 3) xs = -1 := by
  have hz := (zero_of h hv).1
  have hc : ¬ (3 ≤ p.ty ∧ p.ty ≤ 11) := by
    intro hh
    have : p.ty = 3 ∨ p.ty = 4 ∨ p.ty = 5 ∨ p.ty = 6 ∨ p.ty = 7 ∨ p.ty = 8 ∨ p.ty = 9 ∨ p.ty = 10 ∨ p.ty = 11 := by omega
    rcases this with e | e | e | e | e | e | e | e | e <;> (rw [e] at hi; revert hi; decide)
  have z1 : p.id = zPk.id := by rw [← takeL_id p hc, ← hz]; rfl
  refine neg_of (fun e => ?_)
  have z2 : (takeL (moreP p 3)).id = zPk.id := by rw [← e]; rfl
  rw [takeL_id (moreP p 3) hc] at z2
  change (inc16 p.id) = zPk.id at z2
  rw [z1] at z2; revert z2; decide
theorem more_neg_4 {p : Pk} {xs : List (List UInt8 × Int)} {v : Int} (h : restN p xs = v) (hv : 0 ≤ v) (hi : itsB p.ty 4 = false) : restN (moreP p 4) xs = -1 := by
  have hz := (zero_of h hv).1
  have hc : ¬ p.ty = 3 := by
    intro e
    rw [e] at hi
    revert hi
    decide
  have z1 : p.topic = zPk.topic := by rw [← takeL_topic p hc, ← hz]; rfl
  refine neg_of (fun e => ?_)
  have z2 : (takeL (moreP p 4)).topic = zPk.topic := by rw [← e]; rfl
  rw [takeL_topic (moreP p 4) hc] at z2
  change (p.topic ++ [116]) = zPk.topic at z2
  rw [z1] at z2; cases z2
theorem more_neg_5 {p : Pk} {xs : List (List UInt8 × Int)} {v : Int} (h : restN p xs = v) (hv : 0 ≤ v) (hi : itsB p.ty 5 = false) : restN (moreP p 5) xs = -1 := by
  have hz := (zero_of h hv).1
  have hc : ¬ p.ty = 3 := by
    intro e
    rw [e] at hi
    revert hi
    decide
  have z1 : p.load = zPk.load := by rw [← takeL_load p hc, ← hz]; rfl
  refine neg_of (fun e => ?_)
  have z2 : (takeL (moreP p 5)).load = zPk.load := by rw [← e]; rfl
  rw [takeL_load (moreP p 5) hc] at z2
  change (p.load ++ [112]) = zPk.load at z2
  rw [z1] at z2; cases z2
theorem more_neg_6 {p : Pk} {xs : List (List UInt8 × Int)} {v : Int} (h : restN p xs = v) (hv : 0 ≤ v) (hi : itsB p.ty 6 = false) : restN (moreP p 6) xs = -1 := by
  have hz := (zero_of h hv).1
  have hc : ¬ p.ty = 1 := by
    intro e
    rw [e] at hi
    revert hi
    decide
  have z1 : p.level = zPk.level := by rw [← takeL_level p hc, ← hz]; rfl
  refine neg_of (fun e => ?_)
  have z2 : (takeL (moreP p 6)).level = zPk.level := by rw [← e]; rfl
  rw [takeL_level (moreP p 6) hc] at z2
  change (inc8 p.level) = zPk.level at z2
  rw [z1] at z2; revert z2; decide
theorem more_neg_7 {p : Pk} {xs : List (List UInt8 × Int)} {v : Int} (h : restN p xs = v) (hv : 0 ≤ v) (hi : itsB p.ty 7 = false) : restN (moreP p 7) xs = -1 := by
  have hz := (zero_of h hv).1
  have hc : ¬ p.ty = 1 := by
    intro e
    rw [e] at hi
    revert hi
    decide
  have z1 : p.clean = zPk.clean := by rw [← takeL_clean p hc, ← hz]; rfl
  refine neg_of (fun e => ?_)
  have z2 : (takeL (moreP p 7)).clean = zPk.clean := by rw [← e]; rfl
  rw [takeL_clean (moreP p 7) hc] at z2
  change (!p.clean) = zPk.clean at z2
  rw [z1] at z2; cases z2
theorem more_neg_8 {p : Pk} {xs : List (List UInt8 × Int)} {v : Int} (h : restN p xs = v) (hv : 0 ≤ v) (hi : itsB p.ty 8 = false) : restN (moreP p 8) xs = -1 := by
  have hz := (zero_of h hv).1
  have hc : ¬ p.ty = 1 := by
    intro e
    rw [e] at hi
    revert hi
    decide
  have z1 : p.keep = zPk.keep := by rw [← takeL_keep p hc, ← hz]; rfl
  refine neg_of (fun e => ?_)
  have z2 : (takeL (moreP p 8)).keep = zPk.keep := by rw [← e]; rfl
  rw [takeL_keep (moreP p 8) hc] at z2
  change (inc16 p.keep) = zPk.keep at z2
  rw [z1] at z2; revert z2; decide
theorem more_neg_9 {p : Pk} {xs : List (List UInt8 × Int)} {v : Int} (h : restN p xs = v) (hv : 0 ≤ v) (hi : itsB p.ty 9 = false) : restN (moreP p 9) xs = -1 := by
  have hz := (zero_of h hv).1
  have hc : ¬ p.ty = 1 := by
    intro e
    rw [e] at hi
    revert hi
    decide
  have z1 : p.client = zPk.client := by rw [← takeL_client p hc, ← hz]; rfl
  refine neg_of (fun e => ?_)
  have z2 : (takeL (moreP p 9)).client = zPk.client := by rw [← e]; rfl
  rw [takeL_client (moreP p 9) hc] at z2
  change (p.client ++ [99]) = zPk.client at z2
  rw [z1] at z2; cases z2
theorem more_neg_10 {p : Pk} {xs : List (List UInt8 × Int)} {v : Int} (h : restN p xs = v) (hv : 0 ≤ v) (hi : itsB p.ty 10 = false) : restN (moreP p 10) xs = -1 := by
  have hz := (zero_of h hv).1
  have hc : ¬ p.ty = 1 := by
    intro e
    rw [e] at hi
    revert hi
    decide
  have z1 : p.hasWill = zPk.hasWill := by rw [← takeL_hasWill p hc, ← hz]; rfl
  refine neg_of (fun e => ?_)
  have z2 : (takeL (moreP p 10)).hasWill = zPk.hasWill := by rw [← e]; rfl
  rw [takeL_hasWill (moreP p 10) hc] at z2
  change (!p.hasWill) = zPk.hasWill at z2
  rw [z1] at z2; cases z2
theorem more_neg_11 {p : Pk} {xs : List (List UInt8 × Int)} {v : Int} (h : restN p xs = v) (hv : 0 ≤ v) (hi : itsB p.ty 11 = false) : restN (moreP p 11) xs = -1 := by
  have hz := (zero_of h hv).1
  have hc : ¬ p.ty = 1 := by
    intro e
    rw [e] at hi
    revert hi
    decide
  have z1 : p.wr = zPk.wr := by rw [← takeL_wr p hc, ← hz]; rfl
  refine neg_of (fun e => ?_)
  have z2 : (takeL (moreP p 11)).wr = zPk.wr := by rw [← e]; rfl
  rw [takeL_wr (moreP p 11) hc] at z2
  change (!p.wr) = zPk.wr at z2
  rw [z1] at z2; cases z2
theorem more_neg_12 {p : Pk} {xs : List (List UInt8 × Int)} {v : Int} (h : restN p xs = v) (hv : 0 ≤ v) (hi : itsB p.ty 12 = false) : restN (moreP p 12) xs = -1 := by
  have hz := (zero_of h hv).1
  have hc : ¬ p.ty = 1 := by
    intro e
    rw [e] at hi
    revert hi
    decide
  have z1 : p.user = zPk.user := by rw [← takeL_user p hc, ← hz]; rfl
  refine neg_of (fun e => ?_)
  have z2 : (takeL (moreP p 12)).user = zPk.user := by rw [← e]; rfl
  rw [takeL_user (moreP p 12) hc] at z2
  change (p.user ++ [117]) = zPk.user at z2
  rw [z1] at z2; cases z2
theorem more_neg_13 {p : Pk} {xs : List (List UInt8 × Int)} {v : Int} (h : restN p xs = v) (hv : 0 ≤ v) (hi : itsB p.ty 13 = false) : restN (moreP p 13) xs = -1 := by
  have hz := (zero_of h hv).1
  have hc : ¬ p.ty = 1 := by
    intro e
    rw [e] at hi
    revert hi
    decide
  have z1 : p.hasUser = zPk.hasUser := by rw [← takeL_hasUser p hc, ← hz]; rfl
  refine neg_of (fun e => ?_)
  have z2 : (takeL (moreP p 13)).hasUser = zPk.hasUser := by rw [← e]; rfl
  rw [takeL_hasUser (moreP p 13) hc] at z2
  change (!p.hasUser) = zPk.hasUser at z2
  rw [z1] at z2; cases z2
theorem more_neg_14 {p : Pk} {xs : List (List UInt8 × Int)} {v : Int} (h : restN p xs = v) (hv : 0 ≤ v) (hi : itsB p.ty 14 = false) : restN (moreP p 14) xs = -1 := by
  have hz := (zero_of h hv).1
  have hc : ¬ p.ty = 1 := by
    intro e
    rw [e] at hi
    revert hi
    decide
  have z1 : p.pass = zPk.pass := by rw [← takeL_pass p hc, ← hz]; rfl
  refine neg_of (fun e => ?_)
  have z2 : (takeL (moreP p 14)).pass = zPk.pass := by rw [← e]; rfl
  rw [takeL_pass (moreP p 14) hc] at z2
  change (p.pass ++ [115]) = zPk.pass at z2
  rw [z1] at z2; cases z2
theorem more_neg_15 {p : Pk} {xs : List (List UInt8 × Int)} {v : Int} (h : restN p xs = v) (hv : 0 ≤ v) (hi : itsB p.ty 15 = false) : restN (moreP p 15) xs = -1 := by
  have hz := (zero_of h hv).1
  have hc : ¬ p.ty = 2 := by
    intro e
    rw [e] at hi
    revert hi
    decide
  have z1 : p.present = zPk.present := by rw [← takeL_present p hc, ← hz]; rfl
  refine neg_of (fun e => ?_)
  have z2 : (takeL (moreP p 15)).present = zPk.present := by rw [← e]; rfl
  rw [takeL_present (moreP p 15) hc] at z2
  change (!p.present) = zPk.present at z2
  rw [z1] at z2; cases z2
theorem more_neg_16 {p : Pk} {xs : List (List UInt8 × Int)} {v : Int} (h : restN p xs = v) (hv : 0 ≤ v) (hi : itsB p.ty 16 = false) : restN (moreP p 16) xs = -1 := by
  have hz := (zero_of h hv).1
  have hc : ¬ p.ty = 2 := by
    intro e
    rw [e] at hi
    revert hi
    decide
  have z1 : p.code = zPk.code := by rw [← takeL_code p hc, ← hz]; rfl
  refine neg_of (fun e => ?_)
  have z2 : (takeL (moreP p 16)).code = zPk.code := by rw [← e]; rfl
  rw [takeL_code (moreP p 16) hc] at z2
  change (inc8 p.code) = zPk.code at z2
  rw [z1] at z2; revert z2; decide
theorem more_neg_17 {p : Pk} {xs : List (List UInt8 × Int)} {v : Int} (h : restN p xs = v) (hv : 0 ≤ v) (hi : itsB p.ty 17 = false) : restN (moreP p 17) xs = -1 := by
  have hz := (zero_of h hv).1
  have hc : ¬ p.ty = 9 := by
    intro e
    rw [e] at hi
    revert hi
    decide
  have z1 : p.codes = zPk.codes := by rw [← takeL_codes p hc, ← hz]; rfl
  refine neg_of (fun e => ?_)
  have z2 : (takeL (moreP p 17)).codes = zPk.codes := by rw [← e]; rfl
  rw [takeL_codes (moreP p 17) hc] at z2
  change (p.codes ++ [0]) = zPk.codes at z2
  rw [z1] at z2; cases z2
theorem more_neg {p : Pk} {xs : List (List UInt8 × Int)} {v : Int} (f : Nat) (hf : f < 18) (h : restN p xs = v) (hv : 0 ≤ v) (hi : itsB p.ty f = false) : restN (moreP p f) xs = -1 := by
  match f, hf, hi with
  | 0, _, hi => exact more_neg_0 h hv hi
  | 1, _, hi => exact more_neg_1 h hv hi
  | 2, _, hi => exact more_neg_2 h hv hi
  | 3, _, hi => exact more_neg_3 h hv hi
  | 4, _, hi => exact more_neg_4 h hv hi
  | 5, _, hi => exact more_neg_5 h hv hi
  | 6, _, hi => exact more_neg_6 h hv hi
  | 7, _, hi => exact more_neg_7 h hv hi
  | 8, _, hi => exact more_neg_8 h hv hi
  | 9, _, hi => exact more_neg_9 h hv hi
  | 10, _, hi => exact more_neg_10 h hv hi
  | 11, _, hi => exact more_neg_11 h hv hi
  | 12, _, hi => exact more_neg_12 h hv hi
  | 13, _, hi => exact more_neg_13 h hv hi
  | 14, _, hi => exact more_neg_14 h hv hi
  | 15, _, hi => exact more_neg_15 h hv hi
  | 16, _, hi => exact more_neg_16 h hv hi
  | 17, _, hi => exact more_neg_17 h hv hi
  | n + 18, hf, _ => omega
theorem more_ne_0 (p : Pk)  : eqPk p (moreP p 0) = false := by
  cases he : eqPk p (moreP p 0) with
  | false => rfl
  | true =>
    have e := (eqPk_iff _ _).1 he
    have z : p.dup = (!p.dup) := congrArg Pk.dup e
    cases hb : p.dup <;> rw [hb] at z <;> cases z
theorem more_ne_1 (p : Pk) (h : 0 ≤ p.qos ∧ p.qos ≤ 255) : eqPk p (moreP p 1) = false := by
  cases he : eqPk p (moreP p 1) with
  | false => rfl
  | true =>
    have e := (eqPk_iff _ _).1 he
    have z : p.qos = (inc8 p.qos) := congrArg Pk.qos e
    unfold inc8 at z; split at z <;> omega
theorem more_ne_2 (p : Pk)  : eqPk p (moreP p 2) = false := by
  cases he : eqPk p (moreP p 2) with
  | false => rfl
  | true =>
    have e := (eqPk_iff _ _).1 he
    have z : p.ret = (!p.ret) := congrArg Pk.ret e
    cases hb : p.ret <;> rw [hb] at z <;> cases z
theorem more_ne_3 (p : Pk) (h : 0 ≤ p.id ∧ p.id ≤ 65535) : eqPk p (moreP p 3) = false := by
  cases he : eqPk p (moreP p 3) with
  | false => rfl
  | true =>
    have e := (eqPk_iff _ _).1 he
    have z : p.id = (inc16 p.id) := congrArg Pk.id e
    unfold inc16 at z; split at z <;> omega
theorem more_ne_4 (p : Pk)  : eqPk p (moreP p 4) = false := by
  cases he : eqPk p (moreP p 4) with
  | false => rfl
  | true =>
    have e := (eqPk_iff _ _).1 he
    have z : p.topic = (p.topic ++ [116]) := congrArg Pk.topic e
    have := congrArg List.length z; simp at this
theorem more_ne_5 (p : Pk)  : eqPk p (moreP p 5) = false := by
  cases he : eqPk p (moreP p 5) with
  | false => rfl
  | true =>
    have e := (eqPk_iff _ _).1 he
    have z : p.load = (p.load ++ [112]) := congrArg Pk.load e
    have := congrArg List.length z; simp at this
theorem more_ne_6 (p : Pk) (h : 0 ≤ p.level ∧ p.level ≤ 255) : eqPk p (moreP p 6) = false := by
  cases he : eqPk p (moreP p 6) with
  | false => rfl
  | true =>
    have e := (eqPk_iff _ _).1 he
    have z : p.level = (inc8 p.level) := congrArg Pk.level e
    unfold inc8 at z; split at z <;> omega
theorem more_ne_7 (p : Pk)  : eqPk p (moreP p 7) = false := by
  cases he : eqPk p (moreP p 7) with
  | false => rfl
  | true =>
    have e := (eqPk_iff _ _).1 he
    have z : p.clean = (!p.clean) := congrArg Pk.clean e
    cases hb : p.clean <;> rw [hb] at z <;> cases z
theorem more_ne_8 (p : Pk) (h : 0 ≤ p.keep ∧ p.keep ≤ 65535) : eqPk p (moreP p 8) = false := by
  cases he : eqPk p (moreP p 8) with
  | false => rfl
  | true =>
    have e := (eqPk_iff _ _).1 he
    have z : p.keep = (inc16 p.keep) := congrArg Pk.keep e
    unfold inc16 at z; split at z <;> omega
theorem more_ne_9 (p : Pk)  : eqPk p (moreP p 9) = false := by
  cases he : eqPk p (moreP p 9) with
  | false => rfl
  | true =>
    have e := (eqPk_iff _ _).1 he
    have z : p.client = (p.client ++ [99]) := congrArg Pk.client e
    have := congrArg List.length z; simp at this
theorem more_ne_10 (p : Pk)  : eqPk p (moreP p 10) = false := by
  cases he : eqPk p (moreP p 10) with
  | false => rfl
  | true =>
    have e := (eqPk_iff _ _).1 he
    have z : p.hasWill = (!p.hasWill) := congrArg Pk.hasWill e
    cases hb : p.hasWill <;> rw [hb] at z <;> cases z
theorem more_ne_11 (p : Pk)  : eqPk p (moreP p 11) = false := by
  cases he : eqPk p (moreP p 11) with
  | false => rfl
  | true =>
    have e := (eqPk_iff _ _).1 he
    have z : p.wr = (!p.wr) := congrArg Pk.wr e
    cases hb : p.wr <;> rw [hb] at z <;> cases z
theorem more_ne_12 (p : Pk)  : eqPk p (moreP p 12) = false := by
  cases he : eqPk p (moreP p 12) with
  | false => rfl
  | true =>
    have e := (eqPk_iff _ _).1 he
    have z : p.user = (p.user ++ [117]) := congrArg Pk.user e
    have := congrArg List.length z; simp at this
theorem more_ne_13 (p : Pk)  : eqPk p (moreP p 13) = false := by
  cases he : eqPk p (moreP p 13) with
  | false => rfl
  | true =>
    have e := (eqPk_iff _ _).1 he
    have z : p.hasUser = (!p.hasUser) := congrArg Pk.hasUser e
    cases hb : p.hasUser <;> rw [hb] at z <;> cases z
theorem more_ne_14 (p : Pk)  : eqPk p (moreP p 14) = false := by
  cases he : eqPk p (moreP p 14) with
  | false => rfl
  | true =>
    have e := (eqPk_iff _ _).1 he
    have z : p.pass = (p.pass ++ [115]) := congrArg Pk.pass e
    have := congrArg List.length z; simp at this
theorem more_ne_15 (p : Pk)  : eqPk p (moreP p 15) = false := by
  cases he : eqPk p (moreP p 15) with
  | false => rfl
  | true =>
    have e := (eqPk_iff _ _).1 he
    have z : p.present = (!p.present) := congrArg Pk.present e
    cases hb : p.present <;> rw [hb] at z <;> cases z
theorem more_ne_16 (p : Pk) (h : 0 ≤ p.code ∧ p.code ≤ 255) : eqPk p (moreP p 16) = false := by
  cases he : eqPk p (moreP p 16) with
  | false => rfl
  | true =>
    have e := (eqPk_iff _ _).1 he
    have z : p.code = (inc8 p.code) := congrArg Pk.code e
    unfold inc8 at z; split at z <;> omega
theorem more_ne_17 (p : Pk)  : eqPk p (moreP p 17) = false := by
  cases he : eqPk p (moreP p 17) with
  | false => rfl
  | true =>
    have e := (eqPk_iff _ _).1 he
    have z : p.codes = (p.codes ++ [0]) := congrArg Pk.codes e
    have := congrArg List.length z; simp at this
theorem more_ne {p : Pk} {xs : List (List UInt8 × Int)} (f : Nat) (hf : f < 18) (h : Came p xs) : eqPk p (moreP p f) = false := by
  match f, hf with
  | 0, _ => exact more_ne_0 p 
  | 1, _ => exact more_ne_1 p h.qos
  | 2, _ => exact more_ne_2 p 
  | 3, _ => exact more_ne_3 p h.id
  | 4, _ => exact more_ne_4 p 
  | 5, _ => exact more_ne_5 p 
  | 6, _ => exact more_ne_6 p h.level
  | 7, _ => exact more_ne_7 p 
  | 8, _ => exact more_ne_8 p h.keep
  | 9, _ => exact more_ne_9 p 
  | 10, _ => exact more_ne_10 p 
  | 11, _ => exact more_ne_11 p 
  | 12, _ => exact more_ne_12 p 
  | 13, _ => exact more_ne_13 p 
  | 14, _ => exact more_ne_14 p 
  | 15, _ => exact more_ne_15 p 
  | 16, _ => exact more_ne_16 p h.code
  | 17, _ => exact more_ne_17 p 
  | n + 18, hf => omega
theorem more_fit_0 {p : Pk} {xs : List (List UInt8 × Int)} (h : Fit p xs) (h1 : totB p xs ≤ 10000) : Fit (moreP p 0) xs :=
  ⟨h.ty, h.qos, h.id, h.level, h.keep, h.wq, h.code, (by simp only [totB, moreP, Pk.s_dup] at h1 ⊢; omega), h.num, h.sub⟩
theorem more_fit_1 {p : Pk} {xs : List (List UInt8 × Int)} (h : Fit p xs) (h1 : totB p xs ≤ 10000) : Fit (moreP p 1) xs :=
  ⟨h.ty, inc8_in _ h.qos, h.id, h.level, h.keep, h.wq, h.code, (by simp only [totB, moreP, Pk.s_qos] at h1 ⊢; omega), h.num, h.sub⟩
theorem more_fit_2 {p : Pk} {xs : List (List UInt8 × Int)} (h : Fit p xs) (h1 : totB p xs ≤ 10000) : Fit (moreP p 2) xs :=
  ⟨h.ty, h.qos, h.id, h.level, h.keep, h.wq, h.code, (by simp only [totB, moreP, Pk.s_ret] at h1 ⊢; omega), h.num, h.sub⟩
theorem more_fit_3 {p : Pk} {xs : List (List UInt8 × Int)} (h : Fit p xs) (h1 : totB p xs ≤ 10000) : Fit (moreP p 3) xs :=
  ⟨h.ty, h.qos, inc16_in _ h.id, h.level, h.keep, h.wq, h.code, (by simp only [totB, moreP, Pk.s_id] at h1 ⊢; omega), h.num, h.sub⟩
theorem more_fit_4 {p : Pk} {xs : List (List UInt8 × Int)} (h : Fit p xs) (h1 : totB p xs ≤ 10000) : Fit (moreP p 4) xs :=
  ⟨h.ty, h.qos, h.id, h.level, h.keep, h.wq, h.code, (by simp only [totB, moreP, Pk.s_topic, List.length_append, List.length_cons, List.length_nil] at h1 ⊢; omega), h.num, h.sub⟩
theorem more_fit_5 {p : Pk} {xs : List (List UInt8 × Int)} (h : Fit p xs) (h1 : totB p xs ≤ 10000) : Fit (moreP p 5) xs :=
  ⟨h.ty, h.qos, h.id, h.level, h.keep, h.wq, h.code, (by simp only [totB, moreP, Pk.s_load, List.length_append, List.length_cons, List.length_nil] at h1 ⊢; omega), h.num, h.sub⟩
theorem more_fit_6 {p : Pk} {xs : List (List UInt8 × Int)} (h : Fit p xs) (h1 : totB p xs ≤ 10000) : Fit (moreP p 6) xs :=
  ⟨h.ty, h.qos, h.id, inc8_in _ h.level, h.keep, h.wq, h.code, (by simp only [totB, moreP, Pk.s_level] at h1 ⊢; omega), h.num, h.sub⟩
theorem more_fit_7 {p : Pk} {xs : List (List UInt8 × Int)} (h : Fit p xs) (h1 : totB p xs ≤ 10000) : Fit (moreP p 7) xs :=
  ⟨h.ty, h.qos, h.id, h.level, h.keep, h.wq, h.code, (by simp only [totB, moreP, Pk.s_clean] at h1 ⊢; omega), h.num, h.sub⟩
theorem more_fit_8 {p : Pk} {xs : List (List UInt8 × Int)} (h : Fit p xs) (h1 : totB p xs ≤ 10000) : Fit (moreP p 8) xs :=
  ⟨h.ty, h.qos, h.id, h.level, inc16_in _ h.keep, h.wq, h.code, (by simp only [totB, moreP, Pk.s_keep] at h1 ⊢; omega), h.num, h.sub⟩
theorem more_fit_9 {p : Pk} {xs : List (List UInt8 × Int)} (h : Fit p xs) (h1 : totB p xs ≤ 10000) : Fit (moreP p 9) xs :=
  ⟨h.ty, h.qos, h.id, h.level, h.keep, h.wq, h.code, (by simp only [totB, moreP, Pk.s_client, List.length_append, List.length_cons, List.length_nil] at h1 ⊢; omega), h.num, h.sub⟩
theorem more_fit_10 {p : Pk} {xs : List (List UInt8 × Int)} (h : Fit p xs) (h1 : totB p xs ≤ 10000) : Fit (moreP p 10) xs :=
  ⟨h.ty, h.qos, h.id, h.level, h.keep, h.wq, h.code, (by simp only [totB, moreP, Pk.s_hasWill] at h1 ⊢; omega), h.num, h.sub⟩
theorem more_fit_11 {p : Pk} {xs : List (List UInt8 × Int)} (h : Fit p xs) (h1 : totB p xs ≤ 10000) : Fit (moreP p 11) xs :=
  ⟨h.ty, h.qos, h.id, h.level, h.keep, h.wq, h.code, (by simp only [totB, moreP, Pk.s_wr] at h1 ⊢; omega), h.num, h.sub⟩
theorem more_fit_12 {p : Pk} {xs : List (List UInt8 × Int)} (h : Fit p xs) (h1 : totB p xs ≤ 10000) : Fit (moreP p 12) xs :=
  ⟨h.ty, h.qos, h.id, h.level, h.keep, h.wq, h.code, (by simp only [totB, moreP, Pk.s_user, List.length_append, List.length_cons, List.length_nil] at h1 ⊢; omega), h.num, h.sub⟩
theorem more_fit_13 {p : Pk} {xs : List (List UInt8 × Int)} (h : Fit p xs) (h1 : totB p xs ≤ 10000) : Fit (moreP p 13) xs :=
  ⟨h.ty, h.qos, h.id, h.level, h.keep, h.wq, h.code, (by simp only [totB, moreP, Pk.s_hasUser] at h1 ⊢; omega), h.num, h.sub⟩
theorem more_fit_14 {p : Pk} {xs : List (List UInt8 × Int)} (h : Fit p xs) (h1 : totB p xs ≤ 10000) : Fit (moreP p 14) xs :=
  ⟨h.ty, h.qos, h.id, h.level, h.keep, h.wq, h.code, (by simp only [totB, moreP, Pk.s_pass, List.length_append, List.length_cons, List.length_nil] at h1 ⊢; omega), h.num, h.sub⟩
theorem more_fit_15 {p : Pk} {xs : List (List UInt8 × Int)} (h : Fit p xs) (h1 : totB p xs ≤ 10000) : Fit (moreP p 15) xs :=
  ⟨h.ty, h.qos, h.id, h.level, h.keep, h.wq, h.code, (by simp only [totB, moreP, Pk.s_present] at h1 ⊢; omega), h.num, h.sub⟩
theorem more_fit_16 {p : Pk} {xs : List (List UInt8 × Int)} (h : Fit p xs) (h1 : totB p xs ≤ 10000) : Fit (moreP p 16) xs :=
  ⟨h.ty, h.qos, h.id, h.level, h.keep, h.wq, inc8_in _ h.code, (by simp only [totB, moreP, Pk.s_code] at h1 ⊢; omega), h.num, h.sub⟩
theorem more_fit_17 {p : Pk} {xs : List (List UInt8 × Int)} (h : Fit p xs) (h1 : totB p xs ≤ 10000) : Fit (moreP p 17) xs :=
  ⟨h.ty, h.qos, h.id, h.level, h.keep, h.wq, h.code, (by simp only [totB, moreP, Pk.s_codes, List.length_append, List.length_cons, List.length_nil] at h1 ⊢; omega), h.num, h.sub⟩
theorem more_fit {p : Pk} {xs : List (List UInt8 × Int)} (f : Nat) (hf : f < 18) (h : Fit p xs) (h1 : totB p xs ≤ 10000) : Fit (moreP p f) xs := by
  match f, hf with
  | 0, _ => exact more_fit_0 h h1
  | 1, _ => exact more_fit_1 h h1
  | 2, _ => exact more_fit_2 h h1
  | 3, _ => exact more_fit_3 h h1
  | 4, _ => exact more_fit_4 h h1
  | 5, _ => exact more_fit_5 h h1
  | 6, _ => exact more_fit_6 h h1
  | 7, _ => exact more_fit_7 h h1
  | 8, _ => exact more_fit_8 h h1
  | 9, _ => exact more_fit_9 h h1
  | 10, _ => exact more_fit_10 h h1
  | 11, _ => exact more_fit_11 h h1
  | 12, _ => exact more_fit_12 h h1
  | 13, _ => exact more_fit_13 h h1
  | 14, _ => exact more_fit_14 h h1
  | 15, _ => exact more_fit_15 h h1
  | 16, _ => exact more_fit_16 h h1
  | 17, _ => exact more_fit_17 h h1
  | n + 18, hf => omega
theorem more_any (p : Pk) (A : Option Addr) (n c : Nat) (f : Nat) (xs : List (List UInt8 × Int)) (w : World) (h : Fit p xs) (h1 : totB p xs ≤ 10000) (hf : f < 18) :
    Calls Tryd.prog 20 #[.agg (PkC p A n c), .int .i64 f] w fun e w' => e = .returned (.tuple #[.agg (PkC (moreP p f) A n c), .string ⟨(moreS f).toArray⟩]) ∧ Below w.heap.size w w' := by
  unfold totB at h1
  match f, hf with
  | 0, _ => exact more_0 p A n c w 
  | 1, _ => exact more_1 p A n c w h.qos
  | 2, _ => exact more_2 p A n c w 
  | 3, _ => exact more_3 p A n c w h.id
  | 4, _ => exact more_4 p A n c w (by omega)
  | 5, _ => exact more_5 p A n c w (by omega)
  | 6, _ => exact more_6 p A n c w h.level
  | 7, _ => exact more_7 p A n c w 
  | 8, _ => exact more_8 p A n c w h.keep
  | 9, _ => exact more_9 p A n c w (by omega)
  | 10, _ => exact more_10 p A n c w 
  | 11, _ => exact more_11 p A n c w 
  | 12, _ => exact more_12 p A n c w (by omega)
  | 13, _ => exact more_13 p A n c w 
  | 14, _ => exact more_14 p A n c w (by omega)
  | 15, _ => exact more_15 p A n c w 
  | 16, _ => exact more_16 p A n c w h.code
  | 17, _ => exact more_17 p A n c w (by omega)
  | n + 18, hf => omega
theorem moreS_len (f : Nat) : (moreS f).length ≤ 9 := by
  match f with
  | 0 => decide
  | 1 => decide
  | 2 => decide
  | 3 => decide
  | 4 => decide
  | 5 => decide
  | 6 => decide
  | 7 => decide
  | 8 => decide
  | 9 => decide
  | 10 => decide
  | 11 => decide
  | 12 => decide
  | 13 => decide
  | 14 => decide
  | 15 => decide
  | 16 => decide
  | n + 17 => show ([57] : List UInt8).length ≤ 9; decide
/-- The filter that is appended. -/
def subX : List UInt8 × Int := ([102, 47, 35], 0)
theorem sbB_app (a : Int) (xs ys : List (List UInt8 × Int)) : sbB a (xs ++ ys) = sbB a xs + sbB a ys := by
  induction xs with
  | nil => simp [sbB]
  | cons x r ih => simp only [List.cons_append, sbB, ih]; omega
theorem sbR_app (top : Int) (h : 0 ≤ top) (xs : List (List UInt8 × Int)) (hx : sbR top xs = true) : sbR top (xs ++ [subX]) = true := by
  unfold sbR at hx ⊢
  simp only [Bool.and_eq_true] at hx
  rw [List.all_append, hx.2]
  have h1 : flB subX.1 = true := by decide +kernel
  have h2 : decide (subX.2 ≤ top) = true := decide_eq_true h
  simp only [List.all_cons, List.all_nil, h1, h2]
  simp
theorem app8 {p : Pk} {xs : List (List UInt8 × Int)} {v : Int} (ht : p.ty = 8) (h : restN p xs = v) (hv : 0 ≤ v) (hb : v + 6 ≤ 268435455) : restN p (xs ++ [subX]) = v + 6 := by
  obtain ⟨h1, h2, h3, _⟩ := zero_of h hv
  have h2' : (decide (0 < p.id) && sbR 2 xs) = true := by rw [← h2]; simp [takeR, ht]
  have h3' : 2 + sbB 1 xs = v := by rw [← h3]; simp [takeB, ht]
  have e1 : takeR p (xs ++ [subX]) = true := by
    rw [show takeR p (xs ++ [subX]) = (decide (0 < p.id) && sbR 2 (xs ++ [subX])) by simp [takeR, ht]]
    simp only [Bool.and_eq_true] at h2' ⊢
    exact ⟨h2'.1, sbR_app 2 (by omega) xs h2'.2⟩
  have e2 : takeB p (xs ++ [subX]) = v + 6 := by
    rw [show takeB p (xs ++ [subX]) = 2 + sbB 1 (xs ++ [subX]) by simp [takeB, ht], sbB_app]
    have : sbB 1 [subX] = 6 := by decide
    omega
  have e3 : takeN p (xs ++ [subX]).length = 0 := by simp [takeN, ht]
  unfold restN
  rw [e1, e2, e3, (eqPk_iff _ _).2 h1]
  simp [hb]
theorem app10 {p : Pk} {xs : List (List UInt8 × Int)} {v : Int} (ht : p.ty = 10) (h : restN p xs = v) (hv : 0 ≤ v) (hb : v + 5 ≤ 268435455) : restN p (xs ++ [subX]) = v + 5 := by
  obtain ⟨h1, h2, h3, _⟩ := zero_of h hv
  have h2' : (decide (0 < p.id) && sbR 0 xs) = true := by rw [← h2]; simp [takeR, ht]
  have h3' : 2 + sbB 0 xs = v := by rw [← h3]; simp [takeB, ht]
  have e1 : takeR p (xs ++ [subX]) = true := by
    rw [show takeR p (xs ++ [subX]) = (decide (0 < p.id) && sbR 0 (xs ++ [subX])) by simp [takeR, ht]]
    simp only [Bool.and_eq_true] at h2' ⊢
    exact ⟨h2'.1, sbR_app 0 (by omega) xs h2'.2⟩
  have e2 : takeB p (xs ++ [subX]) = v + 5 := by
    rw [show takeB p (xs ++ [subX]) = 2 + sbB 0 (xs ++ [subX]) by simp [takeB, ht], sbB_app]
    have : sbB 0 [subX] = 5 := by decide
    omega
  have e3 : takeN p (xs ++ [subX]).length = 0 := by simp [takeN, ht]
  unfold restN
  rw [e1, e2, e3, (eqPk_iff _ _).2 h1]
  simp [hb]
theorem appNo {p : Pk} {xs : List (List UInt8 × Int)} (h8 : ¬ p.ty = 8) (h10 : ¬ p.ty = 10) : restN p (xs ++ [subX]) = -1 := by
  have e3 : takeN p (xs ++ [subX]).length = xs.length + 1 := by simp [takeN, h8, h10]
  unfold restN
  rw [e3, show (xs.length + 1 == 0) = false by simp]
  simp
theorem sub_le {p : Pk} {xs : List (List UInt8 × Int)} {v : Int} (ht : p.ty = 8 ∨ p.ty = 10) (h : restN p xs = v) (hv : 0 ≤ v) (hf : Fit p xs) : v ≤ 30000 := by
  obtain ⟨_, _, h3, _⟩ := zero_of h hv
  have h4 := hf.tot
  have h5 := hf.num
  have h6 : sumB xs ≤ totB p xs := by unfold totB; omega
  rcases ht with ht | ht
  · have e : takeB p xs = 2 + sbB 1 xs := by simp [takeB, ht]
    have := (sbB_bd 1 (by omega) xs).2
    omega
  · have e : takeB p xs = 2 + sbB 0 xs := by simp [takeB, ht]
    have := (sbB_bd 0 (by omega) xs).2
    omega
theorem takeB_nn (p : Pk) (xs : List (List UInt8 × Int)) : 0 ≤ takeB p xs := by
  have h1 := (sbB_bd 1 (by omega) xs).1
  have h2 := (sbB_bd 0 (by omega) xs).1
  unfold takeB
  repeat' split
  all_goals first | omega | (unfold conB fldB; split <;> split <;> split <;> omega) | (unfold pubB fldB; split <;> omega)
theorem restN_neg {p : Pk} {xs : List (List UInt8 × Int)} {v : Int} (h : restN p xs = v) (hv : v < 0) : v = -1 := by
  unfold restN at h
  split at h
  · have := takeB_nn p xs; omega
  · exact h.symm
theorem app_fit {p : Pk} {xs : List (List UInt8 × Int)} (h : Fit p xs) (h1 : totB p xs ≤ 10000) (h2 : xs.length ≤ 100) : Fit p (xs ++ [subX]) := by
  have hs : ∀ ys : List (List UInt8 × Int), sumB (ys ++ [subX]) = sumB ys + 3 := by
    intro ys
    induction ys with
    | nil => rfl
    | cons x r ih => simp only [List.cons_append, sumB, ih]; omega
  refine ⟨h.ty, h.qos, h.id, h.level, h.keep, h.wq, h.code, ?_, by simp; omega, fun x hx => ?_⟩
  · simp only [totB, hs] at h1 ⊢; omega
  · rcases List.mem_append.1 hx with hx | hx
    · exact h.sub x hx
    · simp at hx; subst hx; simp [subX]
end lawPacketFields
end Go.Proofs.YtbbmfhelncedcaaDoor
