/-
  How a packet's rest grows: the plain mathematics of PacketRests.
-/
import Derived.Test.YtncgkkhpcgdcaaaDoorPkMath
set_option linter.unusedSimpArgs false
set_option linter.unusedVariables false
namespace Go.Proofs.YtncgkkhpcgdcaaaDoor

theorem rest3 (p : Pk) (xs : List (List UInt8 × Int)) (h : p.ty = 3) : restN p xs = if (pubR p && decide (pubB p ≤ 268435455)) && (eqPk ((pubL p).s_ty 0) zPk && xs.length == 0) then pubB p else -1 := by
  unfold restN
  rw [show takeR p xs = pubR p by simp [takeR, h], show takeB p xs = pubB p by simp [takeB, h], show takeL p = pubL p by simp [takeL, h], show takeN p xs.length = xs.length by simp [takeN, h]]
theorem rest1 (p : Pk) (xs : List (List UInt8 × Int)) (h : p.ty = 1) : restN p xs = if (conR p && decide (conB p ≤ 268435455)) && (eqPk ((conL p).s_ty 0) zPk && xs.length == 0) then conB p else -1 := by
  unfold restN
  rw [show takeR p xs = conR p by simp [takeR, h], show takeB p xs = conB p by simp [takeB, h], show takeL p = conL p by simp [takeL, h], show takeN p xs.length = xs.length by simp [takeN, h]]
theorem rest_pos {c : Bool} {b v : Int} (h : (if c then b else -1) = v) (hv : 0 ≤ v) : c = true ∧ b = v := by
  cases c with
  | true => exact ⟨rfl, by simpa using h⟩
  | false => simp at h; omega
theorem pub_parts {p : Pk} {xs : List (List UInt8 × Int)} {v : Int} (h3 : p.ty = 3) (h : restN p xs = v) (hv : 0 ≤ v) : pubR p = true ∧ pubB p = v ∧ (pubL p).s_ty 0 = zPk ∧ (xs.length == 0) = true := by
  rw [rest3 p xs h3] at h
  obtain ⟨h1, h2⟩ := rest_pos h hv
  simp only [Bool.and_eq_true] at h1
  exact ⟨h1.1.1, h2, (eqPk_iff _ _).1 h1.2.1, h1.2.2⟩
theorem con_parts {p : Pk} {xs : List (List UInt8 × Int)} {v : Int} (h3 : p.ty = 1) (h : restN p xs = v) (hv : 0 ≤ v) : conR p = true ∧ conB p = v ∧ (conL p).s_ty 0 = zPk ∧ (xs.length == 0) = true := by
  rw [rest1 p xs h3] at h
  obtain ⟨h1, h2⟩ := rest_pos h hv
  simp only [Bool.and_eq_true] at h1
  exact ⟨h1.1.1, h2, (eqPk_iff _ _).1 h1.2.1, h1.2.2⟩
theorem rest3_mk {p : Pk} {xs : List (List UInt8 × Int)} {v : Int} (h3 : p.ty = 3) (h1 : pubR p = true) (h2 : pubB p = v) (hb : v ≤ 268435455) (hz : (pubL p).s_ty 0 = zPk) (hx : (xs.length == 0) = true) : restN p xs = v := by
  rw [rest3 p xs h3, h1, h2, (eqPk_iff _ _).2 hz, hx]
  simp [hb]
theorem rest1_mk {p : Pk} {xs : List (List UInt8 × Int)} {v : Int} (h3 : p.ty = 1) (h1 : conR p = true) (h2 : conB p = v) (hb : v ≤ 268435455) (hz : (conL p).s_ty 0 = zPk) (hx : (xs.length == 0) = true) : restN p xs = v := by
  rw [rest1 p xs h3, h1, h2, (eqPk_iff _ _).2 hz, hx]
  simp [hb]
theorem pubL_pos (p : Pk) (h : 0 < p.qos) : pubL p = (((((p.s_id 0).s_dup false).s_topic []).s_load []).s_qos 0).s_ret false := by rw [pubL, if_pos h]
theorem pubL_neg (p : Pk) (h : ¬ 0 < p.qos) : pubL p = (((p.s_topic []).s_load []).s_qos 0).s_ret false := by rw [pubL, if_neg h]
theorem pubL_load (p : Pk) (l : List UInt8) : pubL (p.s_load l) = pubL p := by
  by_cases h : 0 < p.qos
  · rw [pubL_pos p h, pubL_pos (p.s_load l) h]
    cases p
    rfl
  · rw [pubL_neg p h, pubL_neg (p.s_load l) h]
    cases p
    rfl
theorem grow_load {p : Pk} {xs : List (List UInt8 × Int)} {v : Int} (s : List UInt8) (h3 : p.ty = 3) (h : restN p xs = v) (hv : 0 ≤ v) (hb : v + s.length ≤ 268435455) : restN (p.s_load (p.load ++ s)) xs = v + s.length := by
  obtain ⟨h1, h2, hz, hx⟩ := pub_parts h3 h hv
  refine rest3_mk h3 h1 ?_ hb (by rw [pubL_load]; exact hz) hx
  rw [← h2]
  simp only [pubB, Pk.s_load, List.length_append]
  split <;> omega
theorem pub_up {p : Pk} {xs : List (List UInt8 × Int)} {v : Int} (h3 : p.ty = 3) (hq : p.qos = 0) (h : restN p xs = v) (hv : 0 ≤ v) (hb : v + 2 ≤ 268435455) : restN ((p.s_qos 2).s_id 1) xs = v + 2 := by
  obtain ⟨h1, h2, hz, hx⟩ := pub_parts h3 h hv
  have hn : nmB p.topic = true := by
    unfold pubR at h1
    simp only [Bool.and_eq_true] at h1
    exact h1.1.1
  refine rest3_mk h3 ?_ ?_ hb ?_ hx
  · simp [pubR, Pk.s_qos, Pk.s_id, hn]
  · rw [← h2]
    simp [pubB, Pk.s_qos, Pk.s_id, hq]
  · rw [pubL_neg p (by omega)] at hz
    rw [pubL_pos ((p.s_qos 2).s_id 1) (by show (0 : Int) < 2; omega)]
    cases p
    simp only [Pk.s_load, Pk.s_topic, Pk.s_qos, Pk.s_ret, Pk.s_id, Pk.s_dup, Pk.s_ty, zPk, Pk.mk.injEq] at hz ⊢
    simp [hz]
theorem pub_down {p : Pk} {xs : List (List UInt8 × Int)} {v : Int} (h3 : p.ty = 3) (hq : 0 < p.qos) (h : restN p xs = v) (hv : 0 ≤ v) (hb : v ≤ 268435455) : restN (((p.s_qos 0).s_id 0).s_dup false) xs = v - 2 := by
  obtain ⟨h1, h2, hz, hx⟩ := pub_parts h3 h hv
  have hn : nmB p.topic = true := by
    unfold pubR at h1
    simp only [Bool.and_eq_true] at h1
    exact h1.1.1
  refine rest3_mk h3 ?_ ?_ (by omega) ?_ hx
  · simp [pubR, Pk.s_qos, Pk.s_id, Pk.s_dup, hn]
  · rw [← h2]
    simp [pubB, Pk.s_qos, Pk.s_id, Pk.s_dup, hq]
  · rw [pubL_pos p hq] at hz
    rw [pubL_neg (((p.s_qos 0).s_id 0).s_dup false) (by show ¬ (0 : Int) < 0; omega)]
    cases p
    simp only [Pk.s_load, Pk.s_topic, Pk.s_qos, Pk.s_ret, Pk.s_id, Pk.s_dup, Pk.s_ty, zPk, Pk.mk.injEq] at hz ⊢
    simp [hz]
theorem grow_pass {p : Pk} {xs : List (List UInt8 × Int)} {v : Int} (s : List UInt8) (h3 : p.ty = 1) (hp : p.hasPass = true) (hl : (p.pass ++ s).length ≤ 65535) (h : restN p xs = v) (hv : 0 ≤ v) (hb : v + s.length ≤ 268435455) : restN (p.s_pass (p.pass ++ s)) xs = v + s.length := by
  obtain ⟨h1, h2, hz, hx⟩ := con_parts h3 h hv
  refine rest1_mk h3 ?_ ?_ hb ?_ hx
  · simp only [conR, wlB, lgB, Pk.s_pass, Bool.and_eq_true] at h1 ⊢
    refine ⟨h1.1, h1.2.1, h1.2.2.1, ⟨h1.2.2.2.1.1, ?_⟩, h1.2.2.2.2⟩
    simp only [hp, Bool.true_and, Bool.or_eq_true, decide_eq_true_eq]
    exact Or.inr (by simpa using hl)
  · rw [← h2]
    simp only [conB, Pk.s_pass, hp, if_true, fldB, List.length_append]
    omega
  · cases p
    simp only [conL, Pk.s_level, Pk.s_clean, Pk.s_keep, Pk.s_client, Pk.s_hasWill, Pk.s_will, Pk.s_hasUser, Pk.s_user, Pk.s_hasPass, Pk.s_pass, Pk.s_ty] at hz ⊢
    exact hz
theorem add_pass {p : Pk} {xs : List (List UInt8 × Int)} {v : Int} (s : List UInt8) (h3 : p.ty = 1) (hu : p.hasUser = true) (hp : p.hasPass = false) (hl : s.length ≤ 65535) (h : restN p xs = v) (hv : 0 ≤ v) (hb : v + 2 + s.length ≤ 268435455) : restN ((p.s_hasPass true).s_pass s) xs = v + 2 + s.length := by
  obtain ⟨h1, h2, hz, hx⟩ := con_parts h3 h hv
  refine rest1_mk h3 ?_ ?_ hb ?_ hx
  · simp only [conR, wlB, lgB, Pk.s_pass, Pk.s_hasPass, Bool.and_eq_true] at h1 ⊢
    refine ⟨h1.1, h1.2.1, h1.2.2.1, ⟨h1.2.2.2.1.1, ?_⟩, ?_⟩
    · simp only [Bool.true_and, Bool.or_eq_true, decide_eq_true_eq]
      exact Or.inr (decide_eq_true hl)
    · rw [hu]; rfl
  · rw [← h2]
    cases hW : p.hasWill <;> simp [conB, Pk.s_pass, Pk.s_hasPass, hp, hu, hW, fldB] <;> omega
  · cases p
    simp only [conL, Pk.s_level, Pk.s_clean, Pk.s_keep, Pk.s_client, Pk.s_hasWill, Pk.s_will, Pk.s_hasUser, Pk.s_user, Pk.s_hasPass, Pk.s_pass, Pk.s_ty] at hz ⊢
    exact hz
end Go.Proofs.YtncgkkhpcgdcaaaDoor
