/-
  PacketKnown: what its packets are answered.
-/
import Derived.Test.YtbbmfhelncedcaaDoorPkJ
set_option linter.unusedSimpArgs false
set_option linter.unusedVariables false
namespace Go.Proofs.YtbbmfhelncedcaaDoor
open Go.RowKit
namespace lawPacketKnown
theorem Kp.re {w w' : World} {L L' : List (Nat × Array Value × TypeId)} (h : Kp w L w') (hs : ∀ x ∈ L', x ∈ L) : Kp w L' w' := ⟨fun x hx => h.rows x (hs x hx), h.below⟩
theorem fit0 (p : Pk) (h : (decide (0 ≤ p.ty ∧ p.ty ≤ 255) && decide (0 ≤ p.qos ∧ p.qos ≤ 255) && decide (0 ≤ p.id ∧ p.id ≤ 65535) && decide (0 ≤ p.level ∧ p.level ≤ 255) && decide (0 ≤ p.keep ∧ p.keep ≤ 65535) && decide (0 ≤ p.wq ∧ p.wq ≤ 255) && decide (0 ≤ p.code ∧ p.code ≤ 255) && decide (totB p [] ≤ 10)) = true) : Fit p [] := by
  simp only [Bool.and_eq_true, decide_eq_true_eq] at h
  obtain ⟨⟨⟨⟨⟨⟨⟨h1, h2⟩, h3⟩, h4⟩, h5⟩, h6⟩, h7⟩, h8⟩ := h
  exact ⟨h1, h2, h3, h4, h5, h6, h7, by omega, by decide, fun x hx => by cases hx⟩
structure Ok (p : Pk) (v : Int) : Prop where
  f : Fit p []
  n : restN p [] = v
def kD : Pk := awC.s_level 3
def kE : Pk := awC.s_pass [120]
def kF : Pk := (awC.s_hasPass true).s_pass [120]
def kG : Pk := (awC.s_hasUser true).s_hasPass true
def kH : Pk := (awC.s_hasWill true).s_will [119] [112, 112] 2 true
def kG2 : Pk := kG.s_wr true
def kH2 : Pk := kH.s_hasWill false
def kI : Pk := ((zPk.s_ty 1).s_level 4).s_hasWill true
def kJ : Pk := (zPk.s_ty 1).s_level 4
theorem kD_ok : Ok kD (-1) := ⟨fit0 _ (by decide), by decide +kernel⟩
theorem kE_ok : Ok kE (-1) := ⟨fit0 _ (by decide), by decide +kernel⟩
theorem kF_ok : Ok kF (-1) := ⟨fit0 _ (by decide), by decide +kernel⟩
theorem kG_ok : Ok kG 17 := ⟨fit0 _ (by decide), by decide +kernel⟩
theorem kH_ok : Ok kH 20 := ⟨fit0 _ (by decide), by decide +kernel⟩
theorem kG2_ok : Ok kG2 (-1) := ⟨fit0 _ (by decide), by decide +kernel⟩
theorem kH2_ok : Ok kH2 (-1) := ⟨fit0 _ (by decide), by decide +kernel⟩
theorem kI_ok : Ok kI (-1) := ⟨fit0 _ (by decide), by decide +kernel⟩
theorem kJ_ok : Ok kJ 12 := ⟨fit0 _ (by decide), by decide +kernel⟩
def goodL : List (List UInt8) := [[97], [47], [97, 47, 98], [43], [35], [97, 47, 43], [43, 47, 43], [43, 47, 35], [97, 47, 47, 35], [47, 43], [36, 120, 47, 35], [97, 32, 98], [47, 47]]
def badL : List (List UInt8) := [[], [97, 43], [43, 97], [97, 35], [35, 97], [35, 47], [97, 47, 35, 47, 98], [97, 47, 98, 43, 47, 99], [43, 43], [35, 35], [43, 35], [97, 47, 35, 35], [0], [97, 47, 255], [47, 35, 47]]
def s8 : Pk := (zPk.s_ty 8).s_id 9
def s10 : Pk := s8.s_ty 10
theorem good_facts : ∀ k : Nat, k < 13 → ∀ x, goodL[k]? = some x → restN s8 [(x, 2), ([122], 0)] = 9 + (x.length : Int) ∧ restN s10 [(x, 2), ([122], 0)] = -1 ∧ restN s10 [(x, 0), ([122], 0)] = 7 + (x.length : Int) ∧ x.length ≤ 6 := by
  intro k hk x hx
  have h : ∀ k : Fin 13, ∀ x, goodL[k.val]? = some x → restN s8 [(x, 2), ([122], 0)] = 9 + (x.length : Int) ∧ restN s10 [(x, 2), ([122], 0)] = -1 ∧ restN s10 [(x, 0), ([122], 0)] = 7 + (x.length : Int) ∧ x.length ≤ 6 := by
    intro k x hx
    have h2 : goodL[k.val]? = some (goodL[k.val]'k.isLt) := List.getElem?_eq_getElem k.isLt
    rw [h2] at hx
    cases hx
    revert k
    decide +kernel
  exact h ⟨k, hk⟩ x hx
theorem bad_facts : ∀ k : Nat, k < 15 → ∀ x, badL[k]? = some x → restN s8 [([122], 0), (x, 0)] = -1 ∧ restN ((zPk.s_ty 3).s_topic x) [] = -1 ∧ x.length ≤ 6 := by
  intro k hk x hx
  have h : ∀ k : Fin 15, ∀ x, badL[k.val]? = some x → restN s8 [([122], 0), (x, 0)] = -1 ∧ restN ((zPk.s_ty 3).s_topic x) [] = -1 ∧ x.length ≤ 6 := by
    intro k x hx
    have h2 : badL[k.val]? = some (badL[k.val]'k.isLt) := List.getElem?_eq_getElem k.isLt
    rw [h2] at hx
    cases hx
    revert k
    decide +kernel
  exact h ⟨k, hk⟩ x hx
theorem fit_subs2 (p : Pk) (h : Fit p []) (h0 : totB p [] ≤ 10) (x y : List UInt8) (a b : Int) (hx : x.length ≤ 6) (hy : y.length ≤ 6) (ha : 0 ≤ a ∧ a ≤ 2) (hb : 0 ≤ b ∧ b ≤ 2) : Fit p [(x, a), (y, b)] := by
  refine ⟨h.ty, h.qos, h.id, h.level, h.keep, h.wq, h.code, ?_, by simp, ?_⟩
  · unfold totB sumB at h0 ⊢; simp only [sumB] at h0 ⊢; omega
  · intro z hz
    simp only [List.mem_cons, List.not_mem_nil, or_false] at hz
    rcases hz with rfl | rfl <;> (constructor <;> (simp only []; omega))
theorem s8_f : Fit s8 [] := fit0 _ (by decide)
theorem s10_f : Fit s10 [] := fit0 _ (by decide)
theorem topic_f (x : List UInt8) (h : x.length ≤ 6) : Fit ((zPk.s_ty 3).s_topic x) [] := by
  have h1 : Fit (zPk.s_ty 3) [] := fit0 _ (by decide)
  refine ⟨h1.ty, h1.qos, h1.id, h1.level, h1.keep, h1.wq, h1.code, ?_, by decide, fun z hz => by cases hz⟩
  have : totB ((zPk.s_ty 3).s_topic x) [] = x.length := by simp [totB, sumB, Pk.s_topic, Pk.s_ty, zPk]
  omega
def wantF (k : Nat) : Int := if k = 4 ∨ k = 5 ∨ k = 6 ∨ k = 7 ∨ k = 11 then 2 else -1
def noneF (k : Nat) : Int := if k = 2 then 2 else if 12 ≤ k ∧ k ≤ 14 then 0 else -1
theorem kind_facts : ∀ k : Nat, k < 20 → Ok ((zPk.s_ty k).s_id 65535) (wantF k) ∧ Ok (zPk.s_ty k) (noneF k) := by
  intro k hk
  have h : ∀ k : Fin 20, restN ((zPk.s_ty (k.val : Nat)).s_id 65535) [] = wantF k.val ∧ restN (zPk.s_ty (k.val : Nat)) [] = noneF k.val := by decide +kernel
  obtain ⟨h1, h2⟩ := h ⟨k, hk⟩
  have f0 : Fit zPk [] := fit0 _ (by decide)
  have ht : 0 ≤ (k : Int) ∧ (k : Int) ≤ 255 := by omega
  exact ⟨⟨⟨ht, f0.qos, (by show (0 : Int) ≤ 65535 ∧ (65535 : Int) ≤ 65535; omega), f0.level, f0.keep, f0.wq, f0.code, f0.tot, f0.num, f0.sub⟩, h1⟩, ⟨⟨ht, f0.qos, f0.id, f0.level, f0.keep, f0.wq, f0.code, f0.tot, f0.num, f0.sub⟩, h2⟩⟩
def kK : Pk := ((zPk.s_ty 9).s_id 1).s_codes [0, 128]
def kL : Pk := ((zPk.s_ty 9).s_id 1).s_codes [3]
def kM : Pk := (zPk.s_ty 2).s_code 5
def kN : Pk := (zPk.s_ty 2).s_code 6
def kO : Pk := ((zPk.s_ty 2).s_code 1).s_present true
def kP : Pk := ((zPk.s_ty 3).s_topic [116]).s_dup true
def kQ : Pk := (((zPk.s_ty 3).s_topic [116]).s_qos 3).s_id 1
theorem kK_ok : Ok kK 4 := ⟨fit0 _ (by decide), by decide +kernel⟩
theorem kL_ok : Ok kL (-1) := ⟨fit0 _ (by decide), by decide +kernel⟩
theorem kM_ok : Ok kM 2 := ⟨fit0 _ (by decide), by decide +kernel⟩
theorem kN_ok : Ok kN (-1) := ⟨fit0 _ (by decide), by decide +kernel⟩
theorem kO_ok : Ok kO (-1) := ⟨fit0 _ (by decide), by decide +kernel⟩
theorem kP_ok : Ok kP (-1) := ⟨fit0 _ (by decide), by decide +kernel⟩
theorem kQ_ok : Ok kQ (-1) := ⟨fit0 _ (by decide), by decide +kernel⟩
theorem law_ok (p : Pk) (v : Int) (hp : Ok p v) (A : Option Addr) (w : World) (hG : Glo w) :
    Calls Tryd.prog 9 #[.agg (PkC p A 0 0), .int .i64 v] w fun e w' => e = .returned (.bool true) ∧ Below w.heap.size w w' := restLaw_yes p A 0 0 [] v w hG (Subs.nil _) hp.f hp.n
/-- All are done. -/
theorem all_on {D : Nat → Bool} {l : List Nat} (h : ∀ j ∈ l, D j = true) {j : Nat} (hj : j ∈ l) : D j = true := h j hj
theorem subs_two {w : World} {g : Nat} {f f2 : List UInt8} {q q2 : Int} (h : rowAt w g = SbC f q ++ SbC f2 q2) (hg : g < w.heap.size) : Subs w (some ⟨g, 0, none⟩) 2 [(f, q), (f2, q2)] := by
  refine ⟨rfl, fun _ => ⟨g, 0, rfl, hg, fun j x hx => ?_⟩⟩
  match j, hx with
  | 0, hx =>
    cases hx
    rw [h]
    exact ⟨by simp [SbC], by simp [SbC]⟩
  | 1, hx =>
    cases hx
    rw [h]
    exact ⟨by simp [SbC], by simp [SbC]⟩
  | j + 2, hx => simp at hx
end lawPacketKnown
end Go.Proofs.YtbbmfhelncedcaaDoor
