/-
  The document's Right and packet's are one: plain mathematics.
-/
import Derived.Test.YtnaedcennichlaaGreatDoorPkRg
set_option linter.unusedSimpArgs false
set_option linter.unusedVariables false
namespace Go.Proofs.YtnaedcennichlaaGreatDoor
def zB (p : Pk) (n : Nat) : Bool := eqPk ((takeL p).s_ty 0) zPk && takeN p n == 0
theorem restN_z (p : Pk) (xs : List (List UInt8 × Int)) : restN p xs = if ((takeR p xs && decide (takeB p xs ≤ 268435455)) && zB p xs.length) = true then takeB p xs else -1 := rfl
theorem combine {S Z q C D R : Bool} {N B : Int} (hS : S = Z) (h : Z = true → ((q && (C && D)) = R) ∧ (R = true → N = B)) : ((true && (S && q)) && (C && (D && decide (N ≤ 268435455)))) = ((R && decide (B ≤ 268435455)) && Z) := by
  subst hS
  cases S with
  | false => simp
  | true =>
    obtain ⟨h1, h2⟩ := h rfl
    cases R with
    | false => revert h1; cases q <;> cases C <;> cases D <;> simp
    | true => rw [h2 rfl]; revert h1; cases q <;> cases C <;> cases D <;> simp
theorem val_nil : valB [] = true := by decide
theorem wlB_cW (p : Pk) : wlB p = cW p := by
  unfold wlB cW eqMs
  cases p.hasWill
  · simp
  · simp only [if_true]
    congr 1
    congr 1
    · rw [Bool.eq_iff_iff]; simp
    · rw [Bool.eq_iff_iff]; simp
theorem lgB_cUP (p : Pk) : lgB p = (cU p && cP p) := by
  unfold lgB cU cP
  cases hU : p.hasUser <;> cases hP : p.hasPass
  · cases p.user <;> cases p.pass <;> simp
  · simp
  · cases hu : p.user with
    | nil => cases p.pass <;> simp [val_nil]
    | cons a l => cases p.pass <;> simp
  · cases hu : p.user with
    | nil => cases p.pass <;> simp [val_nil]
    | cons a l => cases p.pass <;> simp
theorem conR_cn (p : Pk) : conR p = cnB p := by
  unfold conR cnB cA
  rw [wlB_cW, lgB_cUP, Bool.and_assoc]
theorem sbK_no (x : List UInt8 × Int) : sbK false x = (flB x.1 && decide (x.2 ≤ 2)) := by
  unfold sbK
  congr 1
  rw [Bool.eq_iff_iff]; simp
theorem sbK_yes (x : List UInt8 × Int) : sbK true x = (flB x.1 && decide (x.2 ≤ 0)) := by
  unfold sbK
  congr 1
  rw [Bool.eq_iff_iff]; simp; omega
theorem cdK_is (b : UInt8) : cdK b = isCd b := by
  unfold cdK isCd
  rw [Bool.eq_iff_iff]; simp
  omega
def Z1 (p : Pk) : Prop := p.dup = false ∧ p.qos = 0 ∧ p.ret = false ∧ p.id = 0 ∧ p.topic = [] ∧ p.load = [] ∧ p.present = false ∧ p.code = 0 ∧ p.codes = []
theorem only_1 (p : Pk) : eqPk p (onlyP ([108, 99, 107, 110, 119, 117, 115] : List UInt8) p) = true ↔ Z1 p := by
  rw [eqPk_iff]
  have h100 : hasB ([108, 99, 107, 110, 119, 117, 115] : List UInt8) 100 = false := by decide
  have h114 : hasB ([108, 99, 107, 110, 119, 117, 115] : List UInt8) 114 = false := by decide
  have h99 : hasB ([108, 99, 107, 110, 119, 117, 115] : List UInt8) 99 = true := by decide
  have h101 : hasB ([108, 99, 107, 110, 119, 117, 115] : List UInt8) 101 = false := by decide
  have h113 : hasB ([108, 99, 107, 110, 119, 117, 115] : List UInt8) 113 = false := by decide
  have h105 : hasB ([108, 99, 107, 110, 119, 117, 115] : List UInt8) 105 = false := by decide
  have h116 : hasB ([108, 99, 107, 110, 119, 117, 115] : List UInt8) 116 = false := by decide
  have h112 : hasB ([108, 99, 107, 110, 119, 117, 115] : List UInt8) 112 = false := by decide
  have h108 : hasB ([108, 99, 107, 110, 119, 117, 115] : List UInt8) 108 = true := by decide
  have h111 : hasB ([108, 99, 107, 110, 119, 117, 115] : List UInt8) 111 = false := by decide
  have h109 : hasB ([108, 99, 107, 110, 119, 117, 115] : List UInt8) 109 = false := by decide
  cases p
  simp [onlyP, Z1, onl1, onl2, onl3, onl4, onl5, onl6, onl7, onl8, onl9, onl10, onl11, onl12, h100, h114, h99, h101, h113, h105, h116, h112, h108, h111, h109, Pk.s_ty, Pk.s_dup, Pk.s_qos, Pk.s_ret, Pk.s_id, Pk.s_topic, Pk.s_load, Pk.s_level, Pk.s_clean, Pk.s_keep, Pk.s_client, Pk.s_hasWill, Pk.s_wt, Pk.s_wl, Pk.s_wq, Pk.s_wr, Pk.s_hasUser, Pk.s_hasPass, Pk.s_user, Pk.s_pass, Pk.s_present, Pk.s_code, Pk.s_codes, Pk.s_will]
def Z2 (p : Pk) : Prop := p.dup = false ∧ p.qos = 0 ∧ p.ret = false ∧ p.id = 0 ∧ p.topic = [] ∧ p.load = [] ∧ p.level = 0 ∧ p.clean = false ∧ p.keep = 0 ∧ p.client = [] ∧ p.hasWill = false ∧ p.wt = [] ∧ p.wl = [] ∧ p.wq = 0 ∧ p.wr = false ∧ p.hasUser = false ∧ p.hasPass = false ∧ p.user = [] ∧ p.pass = [] ∧ p.codes = []
theorem only_2 (p : Pk) : eqPk p (onlyP ([101, 111] : List UInt8) p) = true ↔ Z2 p := by
  rw [eqPk_iff]
  have h100 : hasB ([101, 111] : List UInt8) 100 = false := by decide
  have h114 : hasB ([101, 111] : List UInt8) 114 = false := by decide
  have h99 : hasB ([101, 111] : List UInt8) 99 = false := by decide
  have h101 : hasB ([101, 111] : List UInt8) 101 = true := by decide
  have h113 : hasB ([101, 111] : List UInt8) 113 = false := by decide
  have h105 : hasB ([101, 111] : List UInt8) 105 = false := by decide
  have h116 : hasB ([101, 111] : List UInt8) 116 = false := by decide
  have h112 : hasB ([101, 111] : List UInt8) 112 = false := by decide
  have h108 : hasB ([101, 111] : List UInt8) 108 = false := by decide
  have h111 : hasB ([101, 111] : List UInt8) 111 = true := by decide
  have h109 : hasB ([101, 111] : List UInt8) 109 = false := by decide
  cases p
  simp [onlyP, Z2, onl1, onl2, onl3, onl4, onl5, onl6, onl7, onl8, onl9, onl10, onl11, onl12, h100, h114, h99, h101, h113, h105, h116, h112, h108, h111, h109, Pk.s_ty, Pk.s_dup, Pk.s_qos, Pk.s_ret, Pk.s_id, Pk.s_topic, Pk.s_load, Pk.s_level, Pk.s_clean, Pk.s_keep, Pk.s_client, Pk.s_hasWill, Pk.s_wt, Pk.s_wl, Pk.s_wq, Pk.s_wr, Pk.s_hasUser, Pk.s_hasPass, Pk.s_user, Pk.s_pass, Pk.s_present, Pk.s_code, Pk.s_codes, Pk.s_will]
def Z3 (p : Pk) : Prop := p.level = 0 ∧ p.clean = false ∧ p.keep = 0 ∧ p.client = [] ∧ p.hasWill = false ∧ p.wt = [] ∧ p.wl = [] ∧ p.wq = 0 ∧ p.wr = false ∧ p.hasUser = false ∧ p.hasPass = false ∧ p.user = [] ∧ p.pass = [] ∧ p.present = false ∧ p.code = 0 ∧ p.codes = []
theorem only_3 (p : Pk) : eqPk p (onlyP ([100, 113, 114, 105, 116, 112] : List UInt8) p) = true ↔ Z3 p := by
  rw [eqPk_iff]
  have h100 : hasB ([100, 113, 114, 105, 116, 112] : List UInt8) 100 = true := by decide
  have h114 : hasB ([100, 113, 114, 105, 116, 112] : List UInt8) 114 = true := by decide
  have h99 : hasB ([100, 113, 114, 105, 116, 112] : List UInt8) 99 = false := by decide
  have h101 : hasB ([100, 113, 114, 105, 116, 112] : List UInt8) 101 = false := by decide
  have h113 : hasB ([100, 113, 114, 105, 116, 112] : List UInt8) 113 = true := by decide
  have h105 : hasB ([100, 113, 114, 105, 116, 112] : List UInt8) 105 = true := by decide
  have h116 : hasB ([100, 113, 114, 105, 116, 112] : List UInt8) 116 = true := by decide
  have h112 : hasB ([100, 113, 114, 105, 116, 112] : List UInt8) 112 = true := by decide
  have h108 : hasB ([100, 113, 114, 105, 116, 112] : List UInt8) 108 = false := by decide
  have h111 : hasB ([100, 113, 114, 105, 116, 112] : List UInt8) 111 = false := by decide
  have h109 : hasB ([100, 113, 114, 105, 116, 112] : List UInt8) 109 = false := by decide
  cases p
  simp [onlyP, Z3, onl1, onl2, onl3, onl4, onl5, onl6, onl7, onl8, onl9, onl10, onl11, onl12, h100, h114, h99, h101, h113, h105, h116, h112, h108, h111, h109, Pk.s_ty, Pk.s_dup, Pk.s_qos, Pk.s_ret, Pk.s_id, Pk.s_topic, Pk.s_load, Pk.s_level, Pk.s_clean, Pk.s_keep, Pk.s_client, Pk.s_hasWill, Pk.s_wt, Pk.s_wl, Pk.s_wq, Pk.s_wr, Pk.s_hasUser, Pk.s_hasPass, Pk.s_user, Pk.s_pass, Pk.s_present, Pk.s_code, Pk.s_codes, Pk.s_will]
def Z4 (p : Pk) : Prop := p.dup = false ∧ p.qos = 0 ∧ p.ret = false ∧ p.topic = [] ∧ p.load = [] ∧ p.level = 0 ∧ p.clean = false ∧ p.keep = 0 ∧ p.client = [] ∧ p.hasWill = false ∧ p.wt = [] ∧ p.wl = [] ∧ p.wq = 0 ∧ p.wr = false ∧ p.hasUser = false ∧ p.hasPass = false ∧ p.user = [] ∧ p.pass = [] ∧ p.present = false ∧ p.code = 0 ∧ p.codes = []
theorem only_4 (p : Pk) : eqPk p (onlyP ([105] : List UInt8) p) = true ↔ Z4 p := by
  rw [eqPk_iff]
  have h100 : hasB ([105] : List UInt8) 100 = false := by decide
  have h114 : hasB ([105] : List UInt8) 114 = false := by decide
  have h99 : hasB ([105] : List UInt8) 99 = false := by decide
  have h101 : hasB ([105] : List UInt8) 101 = false := by decide
  have h113 : hasB ([105] : List UInt8) 113 = false := by decide
  have h105 : hasB ([105] : List UInt8) 105 = true := by decide
  have h116 : hasB ([105] : List UInt8) 116 = false := by decide
  have h112 : hasB ([105] : List UInt8) 112 = false := by decide
  have h108 : hasB ([105] : List UInt8) 108 = false := by decide
  have h111 : hasB ([105] : List UInt8) 111 = false := by decide
  have h109 : hasB ([105] : List UInt8) 109 = false := by decide
  cases p
  simp [onlyP, Z4, onl1, onl2, onl3, onl4, onl5, onl6, onl7, onl8, onl9, onl10, onl11, onl12, h100, h114, h99, h101, h113, h105, h116, h112, h108, h111, h109, Pk.s_ty, Pk.s_dup, Pk.s_qos, Pk.s_ret, Pk.s_id, Pk.s_topic, Pk.s_load, Pk.s_level, Pk.s_clean, Pk.s_keep, Pk.s_client, Pk.s_hasWill, Pk.s_wt, Pk.s_wl, Pk.s_wq, Pk.s_wr, Pk.s_hasUser, Pk.s_hasPass, Pk.s_user, Pk.s_pass, Pk.s_present, Pk.s_code, Pk.s_codes, Pk.s_will]
def Z8 (p : Pk) : Prop := p.dup = false ∧ p.qos = 0 ∧ p.ret = false ∧ p.topic = [] ∧ p.load = [] ∧ p.level = 0 ∧ p.clean = false ∧ p.keep = 0 ∧ p.client = [] ∧ p.hasWill = false ∧ p.wt = [] ∧ p.wl = [] ∧ p.wq = 0 ∧ p.wr = false ∧ p.hasUser = false ∧ p.hasPass = false ∧ p.user = [] ∧ p.pass = [] ∧ p.present = false ∧ p.code = 0 ∧ p.codes = []
theorem only_8 (p : Pk) : eqPk p (onlyP ([105, 98] : List UInt8) p) = true ↔ Z8 p := by
  rw [eqPk_iff]
  have h100 : hasB ([105, 98] : List UInt8) 100 = false := by decide
  have h114 : hasB ([105, 98] : List UInt8) 114 = false := by decide
  have h99 : hasB ([105, 98] : List UInt8) 99 = false := by decide
  have h101 : hasB ([105, 98] : List UInt8) 101 = false := by decide
  have h113 : hasB ([105, 98] : List UInt8) 113 = false := by decide
  have h105 : hasB ([105, 98] : List UInt8) 105 = true := by decide
  have h116 : hasB ([105, 98] : List UInt8) 116 = false := by decide
  have h112 : hasB ([105, 98] : List UInt8) 112 = false := by decide
  have h108 : hasB ([105, 98] : List UInt8) 108 = false := by decide
  have h111 : hasB ([105, 98] : List UInt8) 111 = false := by decide
  have h109 : hasB ([105, 98] : List UInt8) 109 = false := by decide
  cases p
  simp [onlyP, Z8, onl1, onl2, onl3, onl4, onl5, onl6, onl7, onl8, onl9, onl10, onl11, onl12, h100, h114, h99, h101, h113, h105, h116, h112, h108, h111, h109, Pk.s_ty, Pk.s_dup, Pk.s_qos, Pk.s_ret, Pk.s_id, Pk.s_topic, Pk.s_load, Pk.s_level, Pk.s_clean, Pk.s_keep, Pk.s_client, Pk.s_hasWill, Pk.s_wt, Pk.s_wl, Pk.s_wq, Pk.s_wr, Pk.s_hasUser, Pk.s_hasPass, Pk.s_user, Pk.s_pass, Pk.s_present, Pk.s_code, Pk.s_codes, Pk.s_will]
def Z9 (p : Pk) : Prop := p.dup = false ∧ p.qos = 0 ∧ p.ret = false ∧ p.topic = [] ∧ p.load = [] ∧ p.level = 0 ∧ p.clean = false ∧ p.keep = 0 ∧ p.client = [] ∧ p.hasWill = false ∧ p.wt = [] ∧ p.wl = [] ∧ p.wq = 0 ∧ p.wr = false ∧ p.hasUser = false ∧ p.hasPass = false ∧ p.user = [] ∧ p.pass = [] ∧ p.present = false ∧ p.code = 0
theorem only_9 (p : Pk) : eqPk p (onlyP ([105, 109] : List UInt8) p) = true ↔ Z9 p := by
  rw [eqPk_iff]
  have h100 : hasB ([105, 109] : List UInt8) 100 = false := by decide
  have h114 : hasB ([105, 109] : List UInt8) 114 = false := by decide
  have h99 : hasB ([105, 109] : List UInt8) 99 = false := by decide
  have h101 : hasB ([105, 109] : List UInt8) 101 = false := by decide
  have h113 : hasB ([105, 109] : List UInt8) 113 = false := by decide
  have h105 : hasB ([105, 109] : List UInt8) 105 = true := by decide
  have h116 : hasB ([105, 109] : List UInt8) 116 = false := by decide
  have h112 : hasB ([105, 109] : List UInt8) 112 = false := by decide
  have h108 : hasB ([105, 109] : List UInt8) 108 = false := by decide
  have h111 : hasB ([105, 109] : List UInt8) 111 = false := by decide
  have h109 : hasB ([105, 109] : List UInt8) 109 = true := by decide
  cases p
  simp [onlyP, Z9, onl1, onl2, onl3, onl4, onl5, onl6, onl7, onl8, onl9, onl10, onl11, onl12, h100, h114, h99, h101, h113, h105, h116, h112, h108, h111, h109, Pk.s_ty, Pk.s_dup, Pk.s_qos, Pk.s_ret, Pk.s_id, Pk.s_topic, Pk.s_load, Pk.s_level, Pk.s_clean, Pk.s_keep, Pk.s_client, Pk.s_hasWill, Pk.s_wt, Pk.s_wl, Pk.s_wq, Pk.s_wr, Pk.s_hasUser, Pk.s_hasPass, Pk.s_user, Pk.s_pass, Pk.s_present, Pk.s_code, Pk.s_codes, Pk.s_will]
def Z12 (p : Pk) : Prop := p.dup = false ∧ p.qos = 0 ∧ p.ret = false ∧ p.id = 0 ∧ p.topic = [] ∧ p.load = [] ∧ p.level = 0 ∧ p.clean = false ∧ p.keep = 0 ∧ p.client = [] ∧ p.hasWill = false ∧ p.wt = [] ∧ p.wl = [] ∧ p.wq = 0 ∧ p.wr = false ∧ p.hasUser = false ∧ p.hasPass = false ∧ p.user = [] ∧ p.pass = [] ∧ p.present = false ∧ p.code = 0 ∧ p.codes = []
theorem only_12 (p : Pk) : eqPk p (onlyP ([] : List UInt8) p) = true ↔ Z12 p := by
  rw [eqPk_iff]
  have h100 : hasB ([] : List UInt8) 100 = false := by decide
  have h114 : hasB ([] : List UInt8) 114 = false := by decide
  have h99 : hasB ([] : List UInt8) 99 = false := by decide
  have h101 : hasB ([] : List UInt8) 101 = false := by decide
  have h113 : hasB ([] : List UInt8) 113 = false := by decide
  have h105 : hasB ([] : List UInt8) 105 = false := by decide
  have h116 : hasB ([] : List UInt8) 116 = false := by decide
  have h112 : hasB ([] : List UInt8) 112 = false := by decide
  have h108 : hasB ([] : List UInt8) 108 = false := by decide
  have h111 : hasB ([] : List UInt8) 111 = false := by decide
  have h109 : hasB ([] : List UInt8) 109 = false := by decide
  cases p
  simp [onlyP, Z12, onl1, onl2, onl3, onl4, onl5, onl6, onl7, onl8, onl9, onl10, onl11, onl12, h100, h114, h99, h101, h113, h105, h116, h112, h108, h111, h109, Pk.s_ty, Pk.s_dup, Pk.s_qos, Pk.s_ret, Pk.s_id, Pk.s_topic, Pk.s_load, Pk.s_level, Pk.s_clean, Pk.s_keep, Pk.s_client, Pk.s_hasWill, Pk.s_wt, Pk.s_wl, Pk.s_wq, Pk.s_wr, Pk.s_hasUser, Pk.s_hasPass, Pk.s_user, Pk.s_pass, Pk.s_present, Pk.s_code, Pk.s_codes, Pk.s_will]
theorem left_1 (p : Pk) : eqPk ((conL p).s_ty 0) zPk = true ↔ Z1 p := by
  rw [eqPk_iff]
  cases p
  simp [Z1, zPk, conL, ackL, Pk.s_ty, Pk.s_dup, Pk.s_qos, Pk.s_ret, Pk.s_id, Pk.s_topic, Pk.s_load, Pk.s_level, Pk.s_clean, Pk.s_keep, Pk.s_client, Pk.s_hasWill, Pk.s_wt, Pk.s_wl, Pk.s_wq, Pk.s_wr, Pk.s_hasUser, Pk.s_hasPass, Pk.s_user, Pk.s_pass, Pk.s_present, Pk.s_code, Pk.s_codes, Pk.s_will]
theorem left_2 (p : Pk) : eqPk ((ackL p).s_ty 0) zPk = true ↔ Z2 p := by
  rw [eqPk_iff]
  cases p
  simp [Z2, zPk, conL, ackL, Pk.s_ty, Pk.s_dup, Pk.s_qos, Pk.s_ret, Pk.s_id, Pk.s_topic, Pk.s_load, Pk.s_level, Pk.s_clean, Pk.s_keep, Pk.s_client, Pk.s_hasWill, Pk.s_wt, Pk.s_wl, Pk.s_wq, Pk.s_wr, Pk.s_hasUser, Pk.s_hasPass, Pk.s_user, Pk.s_pass, Pk.s_present, Pk.s_code, Pk.s_codes, Pk.s_will]
theorem left_4 (p : Pk) : eqPk ((p.s_id 0).s_ty 0) zPk = true ↔ Z4 p := by
  rw [eqPk_iff]
  cases p
  simp [Z4, zPk, conL, ackL, Pk.s_ty, Pk.s_dup, Pk.s_qos, Pk.s_ret, Pk.s_id, Pk.s_topic, Pk.s_load, Pk.s_level, Pk.s_clean, Pk.s_keep, Pk.s_client, Pk.s_hasWill, Pk.s_wt, Pk.s_wl, Pk.s_wq, Pk.s_wr, Pk.s_hasUser, Pk.s_hasPass, Pk.s_user, Pk.s_pass, Pk.s_present, Pk.s_code, Pk.s_codes, Pk.s_will]
theorem left_9 (p : Pk) : eqPk (((p.s_id 0).s_codes []).s_ty 0) zPk = true ↔ Z9 p := by
  rw [eqPk_iff]
  cases p
  simp [Z9, zPk, conL, ackL, Pk.s_ty, Pk.s_dup, Pk.s_qos, Pk.s_ret, Pk.s_id, Pk.s_topic, Pk.s_load, Pk.s_level, Pk.s_clean, Pk.s_keep, Pk.s_client, Pk.s_hasWill, Pk.s_wt, Pk.s_wl, Pk.s_wq, Pk.s_wr, Pk.s_hasUser, Pk.s_hasPass, Pk.s_user, Pk.s_pass, Pk.s_present, Pk.s_code, Pk.s_codes, Pk.s_will]
theorem left_12 (p : Pk) : eqPk ((p).s_ty 0) zPk = true ↔ Z12 p := by
  rw [eqPk_iff]
  cases p
  simp [Z12, zPk, conL, ackL, Pk.s_ty, Pk.s_dup, Pk.s_qos, Pk.s_ret, Pk.s_id, Pk.s_topic, Pk.s_load, Pk.s_level, Pk.s_clean, Pk.s_keep, Pk.s_client, Pk.s_hasWill, Pk.s_wt, Pk.s_wl, Pk.s_wq, Pk.s_wr, Pk.s_hasUser, Pk.s_hasPass, Pk.s_user, Pk.s_pass, Pk.s_present, Pk.s_code, Pk.s_codes, Pk.s_will]
theorem len0 {α : Type} {xs : List α} (h : (xs.length == 0) = true) : xs = [] := List.eq_nil_of_length_eq_zero (by simpa using h)
theorem ox_no {L : List UInt8} (h : hasB L 98 = false) (xs : List (List UInt8 × Int)) : (xs == oX L xs) = (xs.length == 0) := by
  rw [oX, h]
  cases xs <;> simp
theorem ox_yes {L : List UInt8} (h : hasB L 98 = true) (xs : List (List UInt8 × Int)) : (xs == oX L xs) = true := by
  rw [oX, h]
  simp
theorem math_1 (p : Pk) (xs : List (List UInt8 × Int)) (hf : Fit p xs) (hty : p.ty = 1) : rgB ([108, 99, 107, 110, 119, 117, 115] : List UInt8) p xs = ((takeR p xs && decide (takeB p xs ≤ 268435455)) && zB p xs.length) ∧ (zB p xs.length = true → takeR p xs = true → rrN p xs = takeB p xs) := by
  have hT : takeL p = conL p := by
    have h := hty; simp [takeL, h]
  have hN : takeN p xs.length = xs.length := by
    have h := hty; simp [takeN, h]
  have hS : rgS ([108, 99, 107, 110, 119, 117, 115] : List UInt8) p xs = zB p xs.length := by
    have e1 : eqPk p (onlyP ([108, 99, 107, 110, 119, 117, 115] : List UInt8) p) = eqPk ((takeL p).s_ty 0) zPk := by
      rw [Bool.eq_iff_iff, only_1 p, hT, left_1 p]
    unfold rgS zB
    rw [e1, ox_no (by decide), hN]
  have hR : zB p xs.length = true → (((lsB p xs && !decide (2 < p.qos)) && (rgC p && rgD ([108, 99, 107, 110, 119, 117, 115] : List UInt8) p)) = takeR p xs) ∧ (takeR p xs = true → rrN p xs = takeB p xs) := by
    intro hz
    unfold zB at hz
    rw [hT, hN, Bool.and_eq_true, left_1 p] at hz
    obtain ⟨⟨z_dup, z_qos, z_ret, z_id, z_topic, z_load, z_present, z_code, z_codes⟩, hx⟩ := hz
    obtain rfl := len0 hx
    have hi : hasB ([108, 99, 107, 110, 119, 117, 115] : List UInt8) 105 = false := by decide
    constructor
    · rw [show takeR p [] = conR p by simp [takeR, hty], conR_cn]
      simp [lsB, rgC, rgD, hty, hi, z_dup, z_qos, z_ret, z_id, z_topic, z_load, z_present, z_code, z_codes]
    · intro hr
      simp [rrN, rrA, rrS, rrC, takeB, conB, fldB, sbB, hty, z_dup, z_qos, z_ret, z_id, z_topic, z_load, z_present, z_code, z_codes]
      cases p.hasWill <;> cases p.hasUser <;> cases p.hasPass <;> simp <;> omega
  have hd : (([108, 99, 107, 110, 119, 117, 115] : List UInt8) == [45]) = false := by decide
  refine ⟨?_, fun h => (hR h).2⟩
  unfold rgB rgA
  rw [hd]
  exact combine hS hR
theorem math_2 (p : Pk) (xs : List (List UInt8 × Int)) (hf : Fit p xs) (hty : p.ty = 2) : rgB ([101, 111] : List UInt8) p xs = ((takeR p xs && decide (takeB p xs ≤ 268435455)) && zB p xs.length) ∧ (zB p xs.length = true → takeR p xs = true → rrN p xs = takeB p xs) := by
  have hT : takeL p = ackL p := by
    have h := hty; simp [takeL, h]
  have hN : takeN p xs.length = xs.length := by
    have h := hty; simp [takeN, h]
  have hS : rgS ([101, 111] : List UInt8) p xs = zB p xs.length := by
    have e1 : eqPk p (onlyP ([101, 111] : List UInt8) p) = eqPk ((takeL p).s_ty 0) zPk := by
      rw [Bool.eq_iff_iff, only_2 p, hT, left_2 p]
    unfold rgS zB
    rw [e1, ox_no (by decide), hN]
  have hR : zB p xs.length = true → (((lsB p xs && !decide (2 < p.qos)) && (rgC p && rgD ([101, 111] : List UInt8) p)) = takeR p xs) ∧ (takeR p xs = true → rrN p xs = takeB p xs) := by
    intro hz
    unfold zB at hz
    rw [hT, hN, Bool.and_eq_true, left_2 p] at hz
    obtain ⟨⟨z_dup, z_qos, z_ret, z_id, z_topic, z_load, z_level, z_clean, z_keep, z_client, z_hasWill, z_wt, z_wl, z_wq, z_wr, z_hasUser, z_hasPass, z_user, z_pass, z_codes⟩, hx⟩ := hz
    obtain rfl := len0 hx
    have hi : hasB ([101, 111] : List UInt8) 105 = false := by decide
    have hc := hf.code
    constructor
    · rw [show takeR p [] = ackR p by simp [takeR, hty]]
      simp [lsB, rgC, rgD, hty, hi, ackR, z_dup, z_qos, z_ret, z_id, z_topic, z_load, z_level, z_clean, z_keep, z_client, z_hasWill, z_wt, z_wl, z_wq, z_wr, z_hasUser, z_hasPass, z_user, z_pass, z_codes]
      rw [Bool.eq_iff_iff]
      cases p.present <;> simp <;> omega
    · intro hr
      simp [rrN, rrA, rrS, rrC, takeB, sbB, hty, z_dup, z_qos, z_ret, z_id, z_topic, z_load, z_level, z_clean, z_keep, z_client, z_hasWill, z_wt, z_wl, z_wq, z_wr, z_hasUser, z_hasPass, z_user, z_pass, z_codes]
  have hd : (([101, 111] : List UInt8) == [45]) = false := by decide
  refine ⟨?_, fun h => (hR h).2⟩
  unfold rgB rgA
  rw [hd]
  exact combine hS hR
theorem math_9 (p : Pk) (xs : List (List UInt8 × Int)) (hf : Fit p xs) (hty : p.ty = 9) : rgB ([105, 109] : List UInt8) p xs = ((takeR p xs && decide (takeB p xs ≤ 268435455)) && zB p xs.length) ∧ (zB p xs.length = true → takeR p xs = true → rrN p xs = takeB p xs) := by
  have hT : takeL p = (p.s_id 0).s_codes [] := by
    have h := hty; simp [takeL, h]
  have hN : takeN p xs.length = xs.length := by
    have h := hty; simp [takeN, h]
  have hS : rgS ([105, 109] : List UInt8) p xs = zB p xs.length := by
    have e1 : eqPk p (onlyP ([105, 109] : List UInt8) p) = eqPk ((takeL p).s_ty 0) zPk := by
      rw [Bool.eq_iff_iff, only_9 p, hT, left_9 p]
    unfold rgS zB
    rw [e1, ox_no (by decide), hN]
  have hR : zB p xs.length = true → (((lsB p xs && !decide (2 < p.qos)) && (rgC p && rgD ([105, 109] : List UInt8) p)) = takeR p xs) ∧ (takeR p xs = true → rrN p xs = takeB p xs) := by
    intro hz
    unfold zB at hz
    rw [hT, hN, Bool.and_eq_true, left_9 p] at hz
    obtain ⟨⟨z_dup, z_qos, z_ret, z_topic, z_load, z_level, z_clean, z_keep, z_client, z_hasWill, z_wt, z_wl, z_wq, z_wr, z_hasUser, z_hasPass, z_user, z_pass, z_present, z_code⟩, hx⟩ := hz
    obtain rfl := len0 hx
    have hi : hasB ([105, 109] : List UInt8) 105 = true := by decide
    have hc := hf.id
    have hcd : p.codes.all cdK = p.codes.all isCd := by congr 1; funext b; exact cdK_is b
    constructor
    · rw [show takeR p [] = (decide (0 < p.id) && cdB p.codes) by simp [takeR, hty]]
      have hid : decide (0 < p.id) = !(p.id == 0) := by rw [Bool.eq_iff_iff]; simp; omega
      have hem : (!p.codes.isEmpty) = decide (0 < p.codes.length) := by cases p.codes <;> simp
      rw [cdB, hid, hem]
      simp [lsB, rgC, rgD, hty, hi, hcd, z_dup, z_qos, z_ret, z_topic, z_load, z_level, z_clean, z_keep, z_client, z_hasWill, z_wt, z_wl, z_wq, z_wr, z_hasUser, z_hasPass, z_user, z_pass, z_present, z_code]
      cases p.codes.all isCd <;> cases decide (0 < p.codes.length) <;> cases (p.id == 0) <;> simp
    · intro hr
      have hp : 0 < p.id := by
        rw [show takeR p [] = (decide (0 < p.id) && cdB p.codes) by simp [takeR, hty], Bool.and_eq_true, decide_eq_true_eq] at hr
        exact hr.1
      simp [hp, rrN, rrA, rrS, rrC, takeB, sbB, hty, z_dup, z_qos, z_ret, z_topic, z_load, z_level, z_clean, z_keep, z_client, z_hasWill, z_wt, z_wl, z_wq, z_wr, z_hasUser, z_hasPass, z_user, z_pass, z_present, z_code]
      omega
  have hd : (([105, 109] : List UInt8) == [45]) = false := by decide
  refine ⟨?_, fun h => (hR h).2⟩
  unfold rgB rgA
  rw [hd]
  exact combine hS hR
theorem math_i (p : Pk) (xs : List (List UInt8 × Int)) (hf : Fit p xs) (hty : p.ty = 4 ∨ p.ty = 5 ∨ p.ty = 6 ∨ p.ty = 7 ∨ p.ty = 11) : rgB ([105] : List UInt8) p xs = ((takeR p xs && decide (takeB p xs ≤ 268435455)) && zB p xs.length) ∧ (zB p xs.length = true → takeR p xs = true → rrN p xs = takeB p xs) := by
  have hT : takeL p = p.s_id 0 := by
    rcases hty with h | h | h | h | h <;> simp [takeL, h]
  have hN : takeN p xs.length = xs.length := by
    rcases hty with h | h | h | h | h <;> simp [takeN, h]
  have hS : rgS ([105] : List UInt8) p xs = zB p xs.length := by
    have e1 : eqPk p (onlyP ([105] : List UInt8) p) = eqPk ((takeL p).s_ty 0) zPk := by
      rw [Bool.eq_iff_iff, only_4 p, hT, left_4 p]
    unfold rgS zB
    rw [e1, ox_no (by decide), hN]
  have hR : zB p xs.length = true → (((lsB p xs && !decide (2 < p.qos)) && (rgC p && rgD ([105] : List UInt8) p)) = takeR p xs) ∧ (takeR p xs = true → rrN p xs = takeB p xs) := by
    intro hz
    unfold zB at hz
    rw [hT, hN, Bool.and_eq_true, left_4 p] at hz
    obtain ⟨⟨z_dup, z_qos, z_ret, z_topic, z_load, z_level, z_clean, z_keep, z_client, z_hasWill, z_wt, z_wl, z_wq, z_wr, z_hasUser, z_hasPass, z_user, z_pass, z_present, z_code, z_codes⟩, hx⟩ := hz
    obtain rfl := len0 hx
    have hi : hasB ([105] : List UInt8) 105 = true := by decide
    have hc := hf.id
    have hid : decide (0 < p.id) = !(p.id == 0) := by rw [Bool.eq_iff_iff]; simp; omega
    have hR0 : takeR p [] = decide (0 < p.id) := by rcases hty with h | h | h | h | h <;> simp [takeR, h]
    constructor
    · rw [hR0, hid]
      rcases hty with h | h | h | h | h <;> simp [lsB, rgC, rgD, h, hi, z_dup, z_qos, z_ret, z_topic, z_load, z_level, z_clean, z_keep, z_client, z_hasWill, z_wt, z_wl, z_wq, z_wr, z_hasUser, z_hasPass, z_user, z_pass, z_present, z_code, z_codes]
    · intro hr
      have hp : 0 < p.id := by rw [hR0, decide_eq_true_eq] at hr; exact hr
      rcases hty with h | h | h | h | h <;> simp [hp, rrN, rrA, rrS, rrC, takeB, sbB, h, z_dup, z_qos, z_ret, z_topic, z_load, z_level, z_clean, z_keep, z_client, z_hasWill, z_wt, z_wl, z_wq, z_wr, z_hasUser, z_hasPass, z_user, z_pass, z_present, z_code, z_codes]
  have hd : (([105] : List UInt8) == [45]) = false := by decide
  refine ⟨?_, fun h => (hR h).2⟩
  unfold rgB rgA
  rw [hd]
  exact combine hS hR
theorem math_e (p : Pk) (xs : List (List UInt8 × Int)) (hf : Fit p xs) (hty : p.ty = 12 ∨ p.ty = 13 ∨ p.ty = 14) : rgB ([] : List UInt8) p xs = ((takeR p xs && decide (takeB p xs ≤ 268435455)) && zB p xs.length) ∧ (zB p xs.length = true → takeR p xs = true → rrN p xs = takeB p xs) := by
  have hT : takeL p = p := by
    rcases hty with h | h | h <;> simp [takeL, h]
  have hN : takeN p xs.length = xs.length := by
    rcases hty with h | h | h <;> simp [takeN, h]
  have hS : rgS ([] : List UInt8) p xs = zB p xs.length := by
    have e1 : eqPk p (onlyP ([] : List UInt8) p) = eqPk ((takeL p).s_ty 0) zPk := by
      rw [Bool.eq_iff_iff, only_12 p, hT, left_12 p]
    unfold rgS zB
    rw [e1, ox_no (by decide), hN]
  have hR : zB p xs.length = true → (((lsB p xs && !decide (2 < p.qos)) && (rgC p && rgD ([] : List UInt8) p)) = takeR p xs) ∧ (takeR p xs = true → rrN p xs = takeB p xs) := by
    intro hz
    unfold zB at hz
    rw [hT, hN, Bool.and_eq_true, left_12 p] at hz
    obtain ⟨⟨z_dup, z_qos, z_ret, z_id, z_topic, z_load, z_level, z_clean, z_keep, z_client, z_hasWill, z_wt, z_wl, z_wq, z_wr, z_hasUser, z_hasPass, z_user, z_pass, z_present, z_code, z_codes⟩, hx⟩ := hz
    obtain rfl := len0 hx
    have hi : hasB ([] : List UInt8) 105 = false := by decide
    have hR0 : takeR p [] = true := by rcases hty with h | h | h <;> simp [takeR, h]
    constructor
    · rw [hR0]
      rcases hty with h | h | h <;> simp [lsB, rgC, rgD, h, hi, z_dup, z_qos, z_ret, z_id, z_topic, z_load, z_level, z_clean, z_keep, z_client, z_hasWill, z_wt, z_wl, z_wq, z_wr, z_hasUser, z_hasPass, z_user, z_pass, z_present, z_code, z_codes]
    · intro hr
      rcases hty with h | h | h <;> simp [rrN, rrA, rrS, rrC, takeB, sbB, h, z_dup, z_qos, z_ret, z_id, z_topic, z_load, z_level, z_clean, z_keep, z_client, z_hasWill, z_wt, z_wl, z_wq, z_wr, z_hasUser, z_hasPass, z_user, z_pass, z_present, z_code, z_codes]
  have hd : (([] : List UInt8) == [45]) = false := by decide
  refine ⟨?_, fun h => (hR h).2⟩
  unfold rgB rgA
  rw [hd]
  exact combine hS hR
theorem math_8 (p : Pk) (xs : List (List UInt8 × Int)) (hf : Fit p xs) (hty : p.ty = 8) : rgB ([105, 98] : List UInt8) p xs = ((takeR p xs && decide (takeB p xs ≤ 268435455)) && zB p xs.length) ∧ (zB p xs.length = true → takeR p xs = true → rrN p xs = takeB p xs) := by
  have hT : takeL p = p.s_id 0 := by
    have h := hty; simp [takeL, h]
  have hN : takeN p xs.length = 0 := by
    have h := hty; simp [takeN, h]
  have hS : rgS ([105, 98] : List UInt8) p xs = zB p xs.length := by
    have e1 : eqPk p (onlyP ([105, 98] : List UInt8) p) = eqPk ((takeL p).s_ty 0) zPk := by
      rw [Bool.eq_iff_iff, only_8 p, hT, left_4 p]
      exact Iff.rfl
    unfold rgS zB
    rw [e1, ox_yes (by decide), hN]
    rfl
  have hR : zB p xs.length = true → (((lsB p xs && !decide (2 < p.qos)) && (rgC p && rgD ([105, 98] : List UInt8) p)) = takeR p xs) ∧ (takeR p xs = true → rrN p xs = takeB p xs) := by
    intro hz
    unfold zB at hz
    rw [hT, hN, Bool.and_eq_true, left_4 p] at hz
    obtain ⟨⟨z_dup, z_qos, z_ret, z_topic, z_load, z_level, z_clean, z_keep, z_client, z_hasWill, z_wt, z_wl, z_wq, z_wr, z_hasUser, z_hasPass, z_user, z_pass, z_present, z_code, z_codes⟩, hx⟩ := hz
    have hi : hasB ([105, 98] : List UInt8) 105 = true := by decide
    have hc := hf.id
    have hid : decide (0 < p.id) = !(p.id == 0) := by rw [Bool.eq_iff_iff]; simp; omega
    have hall : xs.all (sbK false) = xs.all fun x => flB x.1 && decide (x.2 ≤ 2) := by congr 1; funext x; exact sbK_no x
    have hem : (!xs.isEmpty) = decide (0 < xs.length) := by cases xs <;> simp
    have hR0 : takeR p xs = (decide (0 < p.id) && sbR 2 xs) := by simp [takeR, hty]
    constructor
    · rw [hR0, sbR, hid, hem]
      simp [lsB, rgC, rgD, hty, hi, hall, z_dup, z_qos, z_ret, z_topic, z_load, z_level, z_clean, z_keep, z_client, z_hasWill, z_wt, z_wl, z_wq, z_wr, z_hasUser, z_hasPass, z_user, z_pass, z_present, z_code, z_codes]
      cases (xs.all fun x => flB x.1 && decide (x.2 ≤ 2)) <;> cases decide (0 < xs.length) <;> cases (p.id == 0) <;> simp
    · intro hr
      have hp : 0 < p.id := by rw [hR0, Bool.and_eq_true, decide_eq_true_eq] at hr; exact hr.1
      simp [hp, rrN, rrA, rrS, rrC, takeB, hty, z_dup, z_qos, z_ret, z_topic, z_load, z_level, z_clean, z_keep, z_client, z_hasWill, z_wt, z_wl, z_wq, z_wr, z_hasUser, z_hasPass, z_user, z_pass, z_present, z_code, z_codes]
  have hd : (([105, 98] : List UInt8) == [45]) = false := by decide
  refine ⟨?_, fun h => (hR h).2⟩
  unfold rgB rgA
  rw [hd]
  exact combine hS hR
theorem math_10 (p : Pk) (xs : List (List UInt8 × Int)) (hf : Fit p xs) (hty : p.ty = 10) : rgB ([105, 98] : List UInt8) p xs = ((takeR p xs && decide (takeB p xs ≤ 268435455)) && zB p xs.length) ∧ (zB p xs.length = true → takeR p xs = true → rrN p xs = takeB p xs) := by
  have hT : takeL p = p.s_id 0 := by
    have h := hty; simp [takeL, h]
  have hN : takeN p xs.length = 0 := by
    have h := hty; simp [takeN, h]
  have hS : rgS ([105, 98] : List UInt8) p xs = zB p xs.length := by
    have e1 : eqPk p (onlyP ([105, 98] : List UInt8) p) = eqPk ((takeL p).s_ty 0) zPk := by
      rw [Bool.eq_iff_iff, only_8 p, hT, left_4 p]
      exact Iff.rfl
    unfold rgS zB
    rw [e1, ox_yes (by decide), hN]
    rfl
  have hR : zB p xs.length = true → (((lsB p xs && !decide (2 < p.qos)) && (rgC p && rgD ([105, 98] : List UInt8) p)) = takeR p xs) ∧ (takeR p xs = true → rrN p xs = takeB p xs) := by
    intro hz
    unfold zB at hz
    rw [hT, hN, Bool.and_eq_true, left_4 p] at hz
    obtain ⟨⟨z_dup, z_qos, z_ret, z_topic, z_load, z_level, z_clean, z_keep, z_client, z_hasWill, z_wt, z_wl, z_wq, z_wr, z_hasUser, z_hasPass, z_user, z_pass, z_present, z_code, z_codes⟩, hx⟩ := hz
    have hi : hasB ([105, 98] : List UInt8) 105 = true := by decide
    have hc := hf.id
    have hid : decide (0 < p.id) = !(p.id == 0) := by rw [Bool.eq_iff_iff]; simp; omega
    have hall : xs.all (sbK true) = xs.all fun x => flB x.1 && decide (x.2 ≤ 0) := by congr 1; funext x; exact sbK_yes x
    have hem : (!xs.isEmpty) = decide (0 < xs.length) := by cases xs <;> simp
    have hR0 : takeR p xs = (decide (0 < p.id) && sbR 0 xs) := by simp [takeR, hty]
    constructor
    · rw [hR0, sbR, hid, hem]
      simp [lsB, rgC, rgD, hty, hi, hall, z_dup, z_qos, z_ret, z_topic, z_load, z_level, z_clean, z_keep, z_client, z_hasWill, z_wt, z_wl, z_wq, z_wr, z_hasUser, z_hasPass, z_user, z_pass, z_present, z_code, z_codes]
      cases (xs.all fun x => flB x.1 && decide (x.2 ≤ 0)) <;> cases decide (0 < xs.length) <;> cases (p.id == 0) <;> simp
    · intro hr
      have hp : 0 < p.id := by rw [hR0, Bool.and_eq_true, decide_eq_true_eq] at hr; exact hr.1
      simp [hp, rrN, rrA, rrS, rrC, takeB, hty, z_dup, z_qos, z_ret, z_topic, z_load, z_level, z_clean, z_keep, z_client, z_hasWill, z_wt, z_wl, z_wq, z_wr, z_hasUser, z_hasPass, z_user, z_pass, z_present, z_code, z_codes]
  have hd : (([105, 98] : List UInt8) == [45]) = false := by decide
  refine ⟨?_, fun h => (hR h).2⟩
  unfold rgB rgA
  rw [hd]
  exact combine hS hR
theorem math_no (p : Pk) (xs : List (List UInt8 × Int)) (k : Nat) (hty : p.ty = (k : Int)) (h : k = 0 ∨ 15 ≤ k) : rgB (fldF k) p xs = false ∧ takeR p xs = false := by
  constructor
  · have : fldF k = [45] := by
      rcases h with rfl | h
      · rfl
      · rw [fldF, List.getElem?_eq_none (by show 15 ≤ k; omega)]; rfl
    rw [this]; rfl
  · unfold takeR
    have h1 : p.ty = 0 ∨ 15 ≤ p.ty := by omega
    rcases h1 with h1 | h1
    · simp [h1]
    · repeat (rw [if_neg (by omega)])
theorem left_3 (p : Pk) : eqPk ((pubL p).s_ty 0) zPk = true ↔ Z3 p ∧ (0 < p.qos ∨ (p.id = 0 ∧ p.dup = false)) := by
  rw [eqPk_iff]
  unfold pubL
  by_cases hq : 0 < p.qos
  · rw [if_pos hq]
    cases p
    simp at hq
    simp [Z3, zPk, hq, Pk.s_ty, Pk.s_dup, Pk.s_qos, Pk.s_ret, Pk.s_id, Pk.s_topic, Pk.s_load, Pk.s_level, Pk.s_clean, Pk.s_keep, Pk.s_client, Pk.s_hasWill, Pk.s_wt, Pk.s_wl, Pk.s_wq, Pk.s_wr, Pk.s_hasUser, Pk.s_hasPass, Pk.s_user, Pk.s_pass, Pk.s_present, Pk.s_code, Pk.s_codes, Pk.s_will]
  · rw [if_neg hq]
    cases p
    simp at hq
    simp [Z3, zPk, Pk.s_ty, Pk.s_dup, Pk.s_qos, Pk.s_ret, Pk.s_id, Pk.s_topic, Pk.s_load, Pk.s_level, Pk.s_clean, Pk.s_keep, Pk.s_client, Pk.s_hasWill, Pk.s_wt, Pk.s_wl, Pk.s_wq, Pk.s_wr, Pk.s_hasUser, Pk.s_hasPass, Pk.s_user, Pk.s_pass, Pk.s_present, Pk.s_code, Pk.s_codes, Pk.s_will]
    constructor
    · rintro ⟨h1, h2, h⟩
      simp_all
    · rintro ⟨h, h1 | ⟨h1, h2⟩⟩
      · omega
      · simp_all
theorem math_3 (p : Pk) (xs : List (List UInt8 × Int)) (hf : Fit p xs) (hty : p.ty = 3) : rgB ([100, 113, 114, 105, 116, 112] : List UInt8) p xs = ((takeR p xs && decide (takeB p xs ≤ 268435455)) && zB p xs.length) ∧ (zB p xs.length = true → takeR p xs = true → rrN p xs = takeB p xs) := by
  have hT : takeL p = pubL p := by simp [takeL, hty]
  have hN : takeN p xs.length = xs.length := by simp [takeN, hty]
  have hq0 := hf.qos
  have hi0 := hf.id
  have hR0 : takeR p xs = pubR p := by simp [takeR, hty]
  obtain ⟨e, he⟩ : ∃ e : Bool, (decide (0 < p.qos) || (p.id == 0 && !p.dup)) = e := ⟨_, rfl⟩
  have hz : zB p xs.length = (rgS ([100, 113, 114, 105, 116, 112] : List UInt8) p xs && e) := by
    unfold zB rgS
    rw [hT, hN, ox_no (by decide), ← he]
    rw [Bool.eq_iff_iff]
    simp only [Bool.and_eq_true, Bool.or_eq_true, decide_eq_true_eq, left_3 p, only_3 p, beq_iff_eq, Bool.not_eq_true']
    constructor
    · rintro ⟨⟨a, b⟩, c⟩; exact ⟨⟨a, c⟩, b⟩
    · rintro ⟨⟨a, c⟩, b⟩; exact ⟨⟨a, b⟩, c⟩
  have hd : (([100, 113, 114, 105, 116, 112] : List UInt8) == [45]) = false := by decide
  cases e with
  | false =>
    have hD : rgD ([100, 113, 114, 105, 116, 112] : List UInt8) p = false := by
      rw [Bool.or_eq_false_iff] at he
      obtain ⟨h1, h2⟩ := he
      have hq : p.qos = 0 := by simp at h1; omega
      unfold rgD
      simp [hty, hq]
      intro _
      cases hdu : p.dup
      · rw [hdu] at h2; simp at h2; simp [h2]
      · simp
    rw [Bool.and_false] at hz
    refine ⟨?_, fun h => by rw [hz] at h; cases h⟩
    unfold rgB
    rw [hD, hz]
    simp
  | true =>
    rw [Bool.and_true] at hz
    have hR : zB p xs.length = true → (((lsB p xs && !decide (2 < p.qos)) && (rgC p && rgD ([100, 113, 114, 105, 116, 112] : List UInt8) p)) = takeR p xs) ∧ (takeR p xs = true → rrN p xs = takeB p xs) := by
      intro hzz
      unfold zB at hzz
      rw [hT, hN, Bool.and_eq_true, left_3 p] at hzz
      obtain ⟨⟨⟨z_level, z_clean, z_keep, z_client, z_hasWill, z_wt, z_wl, z_wq, z_wr, z_hasUser, z_hasPass, z_user, z_pass, z_present, z_code, z_codes⟩, hor⟩, hx⟩ := hzz
      obtain rfl := len0 hx
      have hor2 : 0 < p.qos ∨ (p.qos = 0 ∧ p.id = 0 ∧ p.dup = false) := by
        rcases hor with h | ⟨h1, h2⟩
        · exact .inl h
        · by_cases h : 0 < p.qos
          · exact .inl h
          · exact .inr ⟨by omega, h1, h2⟩
      rw [hR0]
      constructor
      · unfold pubR
        rcases hor2 with h | ⟨h1, h2, h3⟩
        · have hq1 : ¬ p.qos = 0 := by omega
          have hq2 : decide (p.qos ≤ 0) = false := by simp; omega
          have hq3 : decide (p.qos ≤ 2) = !decide (2 < p.qos) := by rw [Bool.eq_iff_iff]; simp
          have hid : decide (0 < p.id) = !(p.id == 0) := by rw [Bool.eq_iff_iff]; simp; omega
          simp [lsB, rgC, rgD, hty, hq1, hq2, hq3, hid, h, z_level, z_clean, z_keep, z_client, z_hasWill, z_wt, z_wl, z_wq, z_wr, z_hasUser, z_hasPass, z_user, z_pass, z_present, z_code, z_codes]
          cases nmB p.topic <;> cases decide (2 < p.qos) <;> cases (p.id == 0) <;> first | (simp; done) | (simp; exact hq1)
        · simp [lsB, rgC, rgD, hty, h1, h2, h3, z_level, z_clean, z_keep, z_client, z_hasWill, z_wt, z_wl, z_wq, z_wr, z_hasUser, z_hasPass, z_user, z_pass, z_present, z_code, z_codes]
      · intro hr
        unfold pubR at hr
        simp only [Bool.and_eq_true, Bool.or_eq_true, decide_eq_true_eq] at hr
        rcases hor2 with h | ⟨h1, h2, h3⟩
        · have hp : 0 < p.id := by rcases hr.2 with h' | h' <;> omega
          simp [rrN, rrA, rrS, rrC, takeB, pubB, fldB, sbB, hty, h, hp, z_level, z_clean, z_keep, z_client, z_hasWill, z_wt, z_wl, z_wq, z_wr, z_hasUser, z_hasPass, z_user, z_pass, z_present, z_code, z_codes]
          omega
        · simp [rrN, rrA, rrS, rrC, takeB, pubB, fldB, sbB, hty, h1, h2, h3, z_level, z_clean, z_keep, z_client, z_hasWill, z_wt, z_wl, z_wq, z_wr, z_hasUser, z_hasPass, z_user, z_pass, z_present, z_code, z_codes]
          omega
    refine ⟨?_, fun h => (hR h).2⟩
    unfold rgB rgA
    rw [hd]
    exact combine hz.symm hR
theorem math_all (p : Pk) (xs : List (List UInt8 × Int)) (hf : Fit p xs) (k : Nat) (hty : p.ty = (k : Int)) : rgB (fldF k) p xs = ((takeR p xs && decide (takeB p xs ≤ 268435455)) && zB p xs.length) ∧ (zB p xs.length = true → takeR p xs = true → rrN p xs = takeB p xs) := by
  by_cases hk : k = 0 ∨ 15 ≤ k
  · obtain ⟨h1, h2⟩ := math_no p xs k hty hk
    rw [h1, h2]
    exact ⟨rfl, fun _ h => by cases h⟩
  · have hk2 : k = 1 ∨ k = 2 ∨ k = 3 ∨ k = 4 ∨ k = 5 ∨ k = 6 ∨ k = 7 ∨ k = 8 ∨ k = 9 ∨ k = 10 ∨ k = 11 ∨ k = 12 ∨ k = 13 ∨ k = 14 := by omega
    rcases hk2 with rfl | rfl | rfl | rfl | rfl | rfl | rfl | rfl | rfl | rfl | rfl | rfl | rfl | rfl
    · exact math_1 p xs hf hty
    · exact math_2 p xs hf hty
    · exact math_3 p xs hf hty
    · exact math_i p xs hf (by simp [hty])
    · exact math_i p xs hf (by simp [hty])
    · exact math_i p xs hf (by simp [hty])
    · exact math_i p xs hf (by simp [hty])
    · exact math_8 p xs hf hty
    · exact math_9 p xs hf hty
    · exact math_10 p xs hf hty
    · exact math_i p xs hf (by simp [hty])
    · exact math_e p xs hf (by simp [hty])
    · exact math_e p xs hf (by simp [hty])
    · exact math_e p xs hf (by simp [hty])
theorem takeB_pos (p : Pk) (xs : List (List UInt8 × Int)) : 0 ≤ takeB p xs := by
  have h1 := (sbB_bd 1 (by omega) xs).1
  have h0 := (sbB_bd 0 (by omega) xs).1
  unfold takeB conB pubB fldB
  repeat (first | omega | split)
theorem right_same (p : Pk) (xs : List (List UInt8 × Int)) (hf : Fit p xs) (k : Nat) (hty : p.ty = (k : Int)) : rgB (fldF k) p xs = decide (0 ≤ restN p xs) := by
  rw [(math_all p xs hf k hty).1, restN_z]
  have := takeB_pos p xs
  cases h : ((takeR p xs && decide (takeB p xs ≤ 268435455)) && zB p xs.length)
  · simp
  · simp [this]
end Go.Proofs.YtnaedcennichlaaGreatDoor
