/-
  The document's own framer: what Next tells, by the ways.
-/
import Derived.Test.YtnaedcennichlaaGreatDoorFrAllM
set_option linter.unusedSimpArgs false
set_option linter.unusedVariables false
namespace Go.Proofs.YtnaedcennichlaaGreatDoor
set_option maxRecDepth 100000
theorem nx_err (m : Int) (s : List UInt8) (E : Int) (h : E ≠ 0) : nxR m s E = ((zPk, []), false, E, s, E) := by unfold nxR; rw [if_neg h]
theorem nx_dc {m : Int} {s : List UInt8} {e : Int} (h : dcR m s = (zPk, [], 0, e)) : nxR m s 0 = if e = 0 then ((zPk, []), false, 0, s, 0) else ((zPk, []), false, e, [], e) := by
  unfold nxR
  rw [h, if_pos rfl]
  by_cases he : e = 0
  · subst he; rfl
  · rw [if_neg he, if_neg he]
theorem nx_nil (m : Int) : nxR m [] 0 = ((zPk, []), false, 0, [], 0) := nx_dc (e := 0) rfl
section
variable {m : Int} {x : UInt8} {r : List UInt8} {n u e : Int}
theorem sz_x (hr : rdR r = (n, u, e)) : szR m (x :: r) = if firB (x.toNat : Int) then szT m (n, u, e) else (0, 4) := by rw [sz_cons, rd_take, hr]
theorem nx_first (h : firB x.toNat = false) : nxR m (x :: r) 0 = ((zPk, []), false, 4, [], 4) := by
  have hd : dcR m (x :: r) = (zPk, [], 0, 4) := by
    have h2 : szR m (x :: r) = (0, 4) := by rw [sz_cons, h]; rfl
    unfold dcR; rw [h2, if_pos (Or.inl (by decide))]
  rw [nx_dc hd]; rfl
theorem nx_four (h : firB x.toNat = true) (hr : rdR r = (n, u, 4)) : nxR m (x :: r) 0 = ((zPk, []), false, 4, [], 4) := by
  have hd : dcR m (x :: r) = (zPk, [], 0, 4) := by
    have h2 : szR m (x :: r) = (0, 4) := by rw [sz_x hr, h]; rfl
    unfold dcR; rw [h2, if_pos (Or.inl (by decide))]
  rw [nx_dc hd]; rfl
theorem nx_two (h : firB x.toNat = true) (hr : rdR r = (n, u, 2)) : nxR m (x :: r) 0 = ((zPk, []), false, 0, x :: r, 0) := by
  have hd : dcR m (x :: r) = (zPk, [], 0, 0) := by
    have h2 : szR m (x :: r) = (0, 0) := by rw [sz_x hr, h]; rfl
    unfold dcR; rw [h2, if_pos (Or.inr (Or.inl rfl))]
  rw [nx_dc hd]; rfl
theorem nx_long (h : firB x.toNat = true) (hr : rdR r = (n, u, 0)) (hl : m < 1 + u + n) : nxR m (x :: r) 0 = ((zPk, []), false, 3, [], 3) := by
  have hd : dcR m (x :: r) = (zPk, [], 0, 3) := by
    have h2 : szR m (x :: r) = (0, 3) := by
      rw [sz_x hr, h, if_pos rfl]
      unfold szT
      rw [if_neg (by dsimp only; omega), if_pos rfl, if_pos hl]
    unfold dcR; rw [h2, if_pos (Or.inl (by decide))]
  rw [nx_dc hd]; rfl
theorem sz_fit (h : firB x.toNat = true) (hr : rdR r = (n, u, 0)) (hl : ¬ m < 1 + u + n) : szR m (x :: r) = (1 + u + n, 0) := by
  rw [sz_x hr, h, if_pos rfl]
  unfold szT
  rw [if_neg (by dsimp only; omega), if_pos rfl, if_neg hl]
theorem nx_short (h : firB x.toNat = true) (hr : rdR r = (n, u, 0)) (hl : ¬ m < 1 + u + n) (hs : ((x :: r).length : Int) < 1 + u + n) : nxR m (x :: r) 0 = ((zPk, []), false, 0, x :: r, 0) := by
  have hd : dcR m (x :: r) = (zPk, [], 0, 0) := by
    have h2 := sz_fit h hr hl
    unfold dcR; rw [h2, if_pos (Or.inr (Or.inr hs))]
  rw [nx_dc hd]; rfl
theorem dec_take (h : firB x.toNat = true) (hr : rdR r = (n, u, 0)) (hs : 1 + u + n ≤ ((x :: r).length : Int)) : decR ((x :: r).take (1 + u + n).toNat) = decR (x :: r) := by
  obtain ⟨j, hj, hc, hjl, hn0, hn1, ht⟩ := rdR_ok r n u hr
  rw [List.length_cons] at hs
  have e : (x :: r).take (1 + u + n).toNat = x :: r.take (u + n).toNat := by
    rw [show (1 + u + n).toNat = (u + n).toNat + 1 by omega, List.take_succ_cons]
  have hrd : rdR (r.take (u + n).toNat) = (n, u, 0) := by
    have e2 : r.take (u + n).toNat = encF j n ++ (r.take (u + n).toNat).drop (j + 1) := by
      rw [← ht]
      conv => lhs; rw [← List.take_append_drop (j + 1) (r.take (u + n).toNat)]
      rw [List.take_take, Nat.min_eq_left (by omega)]
    have e3 := rdL_enc j 3 n 0 1 0 ((r.take (u + n).toNat).drop (j + 1)) hj hn0 hn1
    rw [← e2] at e3
    unfold rdR
    rw [e3, hc]
    simp
  have hcl : ((r.take (u + n).toNat).length : Int) = u + n := by rw [List.length_take]; omega
  have hcut : cutR (x :: r.take (u + n).toNat) = cutR (x :: r) := by
    rw [cut_cons, cut_cons, if_pos h, if_pos h, hrd, hr]
    dsimp only
    rw [if_pos rfl, if_pos rfl, if_neg (by omega), if_neg (by omega)]
    congr 1
    rw [List.drop_take, List.take_take]
    congr 1
    omega
  rw [e]
  unfold decR
  rw [hcut]
  rfl
theorem nx_dec (h : firB x.toNat = true) (hr : rdR r = (n, u, 0)) (hl : ¬ m < 1 + u + n) (hs : 1 + u + n ≤ ((x :: r).length : Int)) {P : Pk} {X : List (List UInt8 × Int)} {N er : Int} (hd : decR (x :: r) = (P, X, N, er)) :
    nxR m (x :: r) 0 = if er = 0 then ((P, X), true, 0, (x :: r).drop N.toNat, 0) else ((zPk, []), false, er, [], er) := by
  obtain ⟨j, hj, hc, hjl, hn0, hn1, ht⟩ := rdR_ok r n u hr
  have h2 := sz_fit h hr hl
  have hdc : dcR m (x :: r) = (P, X, N, er) := by
    unfold dcR
    rw [h2, if_neg (by dsimp only; omega)]
    dsimp only
    rw [dec_take h hr hs, hd]
  unfold nxR
  rw [hdc, if_pos rfl]
  dsimp only
  by_cases he : er = 0
  · rw [if_pos he, if_pos he]
    have hN : 0 < N := by
      subst he
      have h5 : (cutR (x :: r)).2.2 = 0 := by
        by_cases hh : (cutR (x :: r)).2.2 = 0
        · exact hh
        · exfalso
          unfold decR at hd
          rw [if_neg hh] at hd
          injection hd with _ hd
          injection hd with _ hd
          injection hd with _ hd
          exact hh hd
      obtain ⟨b0, r0, n0, u0, _, _, _, k1, k2, _, _, k8, _⟩ := cut_ok h5
      unfold decR at hd
      rw [if_pos h5, k8] at hd
      dsimp only at hd
      split at hd
      · injection hd with _ hd
        injection hd with _ hd
        injection hd with hd _
        omega
      · split at hd
        · injection hd with _ hd
          injection hd with _ hd
          injection hd with hd _
          omega
        · injection hd with _ hd
          injection hd with _ hd
          injection hd with _ hd
          cases hd
    rw [decide_eq_true hN]
  · rw [if_neg he, if_neg he]
end
end Go.Proofs.YtnaedcennichlaaGreatDoor
