/-
  The document's own Only: a packet with those fields alone that its type has.
-/
import Derived.Test.YtphdooaihbmnlaaGreatDoorPkRe
set_option linter.unusedSimpArgs false
set_option linter.unusedVariables false
namespace Go.Proofs.YtphdooaihbmnlaaGreatDoor
open Go.RowKit
def onl1 (L : List UInt8) (p q : Pk) : Pk := q.s_dup (p.dup && hasB L 100)
def onl2 (L : List UInt8) (p q : Pk) : Pk := q.s_ret (p.ret && hasB L 114)
def onl3 (L : List UInt8) (p q : Pk) : Pk := q.s_clean (p.clean && hasB L 99)
def onl4 (L : List UInt8) (p q : Pk) : Pk := q.s_present (p.present && hasB L 101)
def onl5 (L : List UInt8) (q : Pk) : Pk := if hasB L 113 = true then q else q.s_qos 0
def onl6 (L : List UInt8) (q : Pk) : Pk := if hasB L 105 = true then q else q.s_id 0
def onl7 (L : List UInt8) (q : Pk) : Pk := if hasB L 116 = true then q else q.s_topic []
def onl8 (L : List UInt8) (q : Pk) : Pk := if hasB L 112 = true then q else q.s_load []
def onl9 (L : List UInt8) (q : Pk) : Pk := if hasB L 108 = true then q else ((((((((((q.s_level 0).s_keep 0).s_client []).s_hasWill false).s_will [] [] 0 false).s_hasUser false).s_user []).s_hasPass false).s_pass []))
def onl10 (L : List UInt8) (q : Pk) : Pk := if hasB L 111 = true then q else q.s_code 0
def onl11 (L : List UInt8) (q : Pk) : Pk := q
def onl12 (L : List UInt8) (q : Pk) : Pk := if hasB L 109 = true then q else q.s_codes []
def oA (L : List UInt8) (A : Option Addr) : Option Addr := if hasB L 98 = true then A else none
def oN (L : List UInt8) (n : Nat) : Nat := if hasB L 98 = true then n else 0
def onlyP (L : List UInt8) (p : Pk) : Pk := onl12 L (onl11 L (onl10 L (onl9 L (onl8 L (onl7 L (onl6 L (onl5 L (onl4 L p (onl3 L p (onl2 L p (onl1 L p (p))))))))))))
set_option maxRecDepth 100000 in
set_option maxHeartbeats 8000000 in
theorem refOnly_any (p : Pk) (A : Option Addr) (n c k : Nat) (L : List UInt8) (w : World) (hty : p.ty = (k : Int)) (hk : k ≤ 255) (hL : fldF k = L) (hl : L.length ≤ 100) :
    Calls Tryz.prog 29 #[.agg (PkC p A n c)] w fun e w' => e = .returned (.agg (PkC (onlyP L p) (oA L A) (oN L n) (oN L c))) ∧ Below w.heap.size w w' := by
  have hK0 := (((Kp.nil w).new (PkC p A n c) 27).new (PkC zPk none 0 0) 27).swap
  simp only [World.size_alloc] at hK0
  have hF : ∀ w, Calls Tryz.prog 28 #[.int .u8 p.ty] w fun e w' => e = .returned (.string ⟨L.toArray⟩) ∧ Below w.heap.size w w' := by
    intro w
    rw [hty]
    exact refFields_eq k hk L hL w
  have HF := Lib.hid hF
  have hb0 : Below w.heap.size w w := Below.refl _ _
  clear hF hty hk hL
  go_enter Tryz.func29, Tryz.ntmps29
  go_wp2_with fail
  refine (HF.out _).mono ?_
  rintro e w6 ⟨rfl, hb6⟩
  have hK6 := hK0.more hb6
  clear hb6 hK0 HF
  have p1r := hK6.row; have p1f := hK6.free; have p1c := hK6.cell; have p1l := hK6.lt; have p1z := hK6.froz
  have p2r := hK6.tail.row; have p2f := hK6.tail.free; have p2c := hK6.tail.cell; have p2l := hK6.tail.lt; have p2z := hK6.tail.froz
  go_upto_region 3 with fail
  obtain ⟨w7, hw7⟩ : ∃ w7 : World, w7 = w6.alloc (.cells (PkC p A n c) 27) := ⟨_, rfl⟩
  have hK7 := hK6.new (PkC p A n c) 27
  rw [← hw7] at hK7 ⊢
  obtain ⟨g, hg⟩ : ∃ g, g = w6.heap.size := ⟨_, rfl⟩
  have hg1 : w.heap.size + 1 < g := by omega
  rw [← hg] at hK7 ⊢
  clear hw7 hg hK6 p1r p1f p1c p1l p1z p2r p2f p2c p2l p2z
  have hne : ∀ x ∈ [(w.heap.size, PkC p A n c, 27), (w.heap.size + 1, PkC zPk none 0 0, 27)], x.1 ≠ g := by
    intro x hx
    simp at hx
    rcases hx with rfl | rfl <;> (simp; omega)
  have m1 : ¬ w.heap.size = g := by omega
  have m2 : ¬ w.heap.size + 1 = g := by omega
  have m3 : ¬ g = w.heap.size := by omega
  have m4 : ¬ g = w.heap.size + 1 := by omega
  have HNE := Lib.hid hne
  clear hne
  obtain ⟨q0, hq0⟩ : ∃ q0, q0 = p := ⟨_, rfl⟩
  rw [show PkC p A n c = PkC q0 A n c by rw [hq0]] at hK7
  rw [show (w.heap.size, PkC q0 A n c, 27) = (w.heap.size, PkC p A n c, 27) by rw [hq0]] at hK7
  have HQ0 := Lib.hid hq0
  clear hq0
  go_upto_region 3 with fail
  have p1r := hK7.row; have p1f := hK7.free; have p1c := hK7.cell; have p1l := hK7.lt; have p1z := hK7.froz
  have p2r := hK7.tail.row; have p2f := hK7.tail.free; have p2c := hK7.tail.cell; have p2l := hK7.tail.lt; have p2z := hK7.tail.froz
  have p3r := hK7.tail.tail.row; have p3f := hK7.tail.tail.free; have p3c := hK7.tail.tail.cell; have p3l := hK7.tail.tail.lt; have p3z := hK7.tail.tail.froz
  go_cut [] (fun wx => Kp w [(g, PkC (onl1 L p q0) A n c, 27), (w.heap.size, PkC p A n c, 27), (w.heap.size + 1, PkC zPk none 0 0, 27)] wx)
  case first =>
    cases hd : p.dup
    · go_wp2_with fail
      go_meet
      case rel => (unfold onl1; rw [hd]; exact hK7.set HNE.out _)
    · go_wp2_with fail
      refine (has_eq L 100 _ _ (by omega) rfl).mono ?_
      rintro e wh ⟨rfl, rfl⟩
      go_wp2_with fail
      go_meet
      case rel => (unfold onl1; rw [hd]; exact hK7.set HNE.out _)
  clear hK7 p1r p1f p1c p1l p1z p2r p2f p2c p2l p2z p3r p3f p3c p3l p3z
  have hK7 := hcut
  clear hcut
  obtain ⟨q1, hq1⟩ : ∃ q, q = onl1 L p q0 := ⟨_, rfl⟩
  rw [← hq1] at hK7
  have HQ1 := Lib.hid hq1
  clear hq1
  go_upto_region 4 with fail
  have p1r := hK7.row; have p1f := hK7.free; have p1c := hK7.cell; have p1l := hK7.lt; have p1z := hK7.froz
  have p2r := hK7.tail.row; have p2f := hK7.tail.free; have p2c := hK7.tail.cell; have p2l := hK7.tail.lt; have p2z := hK7.tail.froz
  have p3r := hK7.tail.tail.row; have p3f := hK7.tail.tail.free; have p3c := hK7.tail.tail.cell; have p3l := hK7.tail.tail.lt; have p3z := hK7.tail.tail.froz
  go_cut [] (fun wx => Kp w [(g, PkC (onl2 L p q1) A n c, 27), (w.heap.size, PkC p A n c, 27), (w.heap.size + 1, PkC zPk none 0 0, 27)] wx)
  case first =>
    cases hd : p.ret
    · go_wp2_with fail
      go_meet
      case rel => (unfold onl2; rw [hd]; exact hK7.set HNE.out _)
    · go_wp2_with fail
      refine (has_eq L 114 _ _ (by omega) rfl).mono ?_
      rintro e wh ⟨rfl, rfl⟩
      go_wp2_with fail
      go_meet
      case rel => (unfold onl2; rw [hd]; exact hK7.set HNE.out _)
  clear hK7 p1r p1f p1c p1l p1z p2r p2f p2c p2l p2z p3r p3f p3c p3l p3z
  have hK7 := hcut
  clear hcut
  obtain ⟨q2, hq2⟩ : ∃ q, q = onl2 L p q1 := ⟨_, rfl⟩
  rw [← hq2] at hK7
  have HQ2 := Lib.hid hq2
  clear hq2
  go_upto_region 5 with fail
  have p1r := hK7.row; have p1f := hK7.free; have p1c := hK7.cell; have p1l := hK7.lt; have p1z := hK7.froz
  have p2r := hK7.tail.row; have p2f := hK7.tail.free; have p2c := hK7.tail.cell; have p2l := hK7.tail.lt; have p2z := hK7.tail.froz
  have p3r := hK7.tail.tail.row; have p3f := hK7.tail.tail.free; have p3c := hK7.tail.tail.cell; have p3l := hK7.tail.tail.lt; have p3z := hK7.tail.tail.froz
  go_cut [] (fun wx => Kp w [(g, PkC (onl3 L p q2) A n c, 27), (w.heap.size, PkC p A n c, 27), (w.heap.size + 1, PkC zPk none 0 0, 27)] wx)
  case first =>
    cases hd : p.clean
    · go_wp2_with fail
      go_meet
      case rel => (unfold onl3; rw [hd]; exact hK7.set HNE.out _)
    · go_wp2_with fail
      refine (has_eq L 99 _ _ (by omega) rfl).mono ?_
      rintro e wh ⟨rfl, rfl⟩
      go_wp2_with fail
      go_meet
      case rel => (unfold onl3; rw [hd]; exact hK7.set HNE.out _)
  clear hK7 p1r p1f p1c p1l p1z p2r p2f p2c p2l p2z p3r p3f p3c p3l p3z
  have hK7 := hcut
  clear hcut
  obtain ⟨q3, hq3⟩ : ∃ q, q = onl3 L p q2 := ⟨_, rfl⟩
  rw [← hq3] at hK7
  have HQ3 := Lib.hid hq3
  clear hq3
  go_upto_region 6 with fail
  have p1r := hK7.row; have p1f := hK7.free; have p1c := hK7.cell; have p1l := hK7.lt; have p1z := hK7.froz
  have p2r := hK7.tail.row; have p2f := hK7.tail.free; have p2c := hK7.tail.cell; have p2l := hK7.tail.lt; have p2z := hK7.tail.froz
  have p3r := hK7.tail.tail.row; have p3f := hK7.tail.tail.free; have p3c := hK7.tail.tail.cell; have p3l := hK7.tail.tail.lt; have p3z := hK7.tail.tail.froz
  go_cut [] (fun wx => Kp w [(g, PkC (onl4 L p q3) A n c, 27), (w.heap.size, PkC p A n c, 27), (w.heap.size + 1, PkC zPk none 0 0, 27)] wx)
  case first =>
    cases hd : p.present
    · go_wp2_with fail
      go_meet
      case rel => (unfold onl4; rw [hd]; exact hK7.set HNE.out _)
    · go_wp2_with fail
      refine (has_eq L 101 _ _ (by omega) rfl).mono ?_
      rintro e wh ⟨rfl, rfl⟩
      go_wp2_with fail
      go_meet
      case rel => (unfold onl4; rw [hd]; exact hK7.set HNE.out _)
  clear hK7 p1r p1f p1c p1l p1z p2r p2f p2c p2l p2z p3r p3f p3c p3l p3z
  have hK7 := hcut
  clear hcut
  obtain ⟨q4, hq4⟩ : ∃ q, q = onl4 L p q3 := ⟨_, rfl⟩
  rw [← hq4] at hK7
  have HQ4 := Lib.hid hq4
  clear hq4
  go_upto_region 7 with fail
  have p1r := hK7.row; have p1f := hK7.free; have p1c := hK7.cell; have p1l := hK7.lt; have p1z := hK7.froz
  have p2r := hK7.tail.row; have p2f := hK7.tail.free; have p2c := hK7.tail.cell; have p2l := hK7.tail.lt; have p2z := hK7.tail.froz
  have p3r := hK7.tail.tail.row; have p3f := hK7.tail.tail.free; have p3c := hK7.tail.tail.cell; have p3l := hK7.tail.tail.lt; have p3z := hK7.tail.tail.froz
  go_wp2_with fail
  refine (has_eq L 113 _ _ (by omega) rfl).mono ?_
  rintro e wh ⟨rfl, rfl⟩
  go_upto_if 39 with fail
  go_cut [] (fun wx => Kp w [(g, PkC (onl5 L q4) A n c, 27), (w.heap.size, PkC p A n c, 27), (w.heap.size + 1, PkC zPk none 0 0, 27)] wx)
  case first =>
    cases hd : hasB L 113
    · go_wp2_with fail
      go_meet
      case rel => (unfold onl5; simp only [hd, Bool.false_eq_true, if_false]; exact hK7.set HNE.out _)
    · go_wp2_with fail
      go_meet
      case rel => (unfold onl5; simp only [hd, if_true]; exact hK7)
  clear hK7 p1r p1f p1c p1l p1z p2r p2f p2c p2l p2z p3r p3f p3c p3l p3z
  have hK7 := hcut
  clear hcut
  obtain ⟨q5, hq5⟩ : ∃ q, q = onl5 L q4 := ⟨_, rfl⟩
  rw [← hq5] at hK7
  have HQ5 := Lib.hid hq5
  clear hq5
  go_upto_region 9 with fail
  have p1r := hK7.row; have p1f := hK7.free; have p1c := hK7.cell; have p1l := hK7.lt; have p1z := hK7.froz
  have p2r := hK7.tail.row; have p2f := hK7.tail.free; have p2c := hK7.tail.cell; have p2l := hK7.tail.lt; have p2z := hK7.tail.froz
  have p3r := hK7.tail.tail.row; have p3f := hK7.tail.tail.free; have p3c := hK7.tail.tail.cell; have p3l := hK7.tail.tail.lt; have p3z := hK7.tail.tail.froz
  go_wp2_with fail
  refine (has_eq L 105 _ _ (by omega) rfl).mono ?_
  rintro e wh ⟨rfl, rfl⟩
  go_upto_if 43 with fail
  go_cut [] (fun wx => Kp w [(g, PkC (onl6 L q5) A n c, 27), (w.heap.size, PkC p A n c, 27), (w.heap.size + 1, PkC zPk none 0 0, 27)] wx)
  case first =>
    cases hd : hasB L 105
    · go_wp2_with fail
      go_meet
      case rel => (unfold onl6; simp only [hd, Bool.false_eq_true, if_false]; exact hK7.set HNE.out _)
    · go_wp2_with fail
      go_meet
      case rel => (unfold onl6; simp only [hd, if_true]; exact hK7)
  clear hK7 p1r p1f p1c p1l p1z p2r p2f p2c p2l p2z p3r p3f p3c p3l p3z
  have hK7 := hcut
  clear hcut
  obtain ⟨q6, hq6⟩ : ∃ q, q = onl6 L q5 := ⟨_, rfl⟩
  rw [← hq6] at hK7
  have HQ6 := Lib.hid hq6
  clear hq6
  go_upto_region 11 with fail
  have p1r := hK7.row; have p1f := hK7.free; have p1c := hK7.cell; have p1l := hK7.lt; have p1z := hK7.froz
  have p2r := hK7.tail.row; have p2f := hK7.tail.free; have p2c := hK7.tail.cell; have p2l := hK7.tail.lt; have p2z := hK7.tail.froz
  have p3r := hK7.tail.tail.row; have p3f := hK7.tail.tail.free; have p3c := hK7.tail.tail.cell; have p3l := hK7.tail.tail.lt; have p3z := hK7.tail.tail.froz
  go_wp2_with fail
  refine (has_eq L 116 _ _ (by omega) rfl).mono ?_
  rintro e wh ⟨rfl, rfl⟩
  go_upto_if 47 with fail
  go_cut [] (fun wx => Kp w [(g, PkC (onl7 L q6) A n c, 27), (w.heap.size, PkC p A n c, 27), (w.heap.size + 1, PkC zPk none 0 0, 27)] wx)
  case first =>
    cases hd : hasB L 116
    · go_wp2_with fail
      go_meet
      case rel => (unfold onl7; simp only [hd, Bool.false_eq_true, if_false]; exact hK7.set HNE.out _)
    · go_wp2_with fail
      go_meet
      case rel => (unfold onl7; simp only [hd, if_true]; exact hK7)
  clear hK7 p1r p1f p1c p1l p1z p2r p2f p2c p2l p2z p3r p3f p3c p3l p3z
  have hK7 := hcut
  clear hcut
  obtain ⟨q7, hq7⟩ : ∃ q, q = onl7 L q6 := ⟨_, rfl⟩
  rw [← hq7] at hK7
  have HQ7 := Lib.hid hq7
  clear hq7
  go_upto_region 13 with fail
  have p1r := hK7.row; have p1f := hK7.free; have p1c := hK7.cell; have p1l := hK7.lt; have p1z := hK7.froz
  have p2r := hK7.tail.row; have p2f := hK7.tail.free; have p2c := hK7.tail.cell; have p2l := hK7.tail.lt; have p2z := hK7.tail.froz
  have p3r := hK7.tail.tail.row; have p3f := hK7.tail.tail.free; have p3c := hK7.tail.tail.cell; have p3l := hK7.tail.tail.lt; have p3z := hK7.tail.tail.froz
  go_wp2_with fail
  refine (has_eq L 112 _ _ (by omega) rfl).mono ?_
  rintro e wh ⟨rfl, rfl⟩
  go_upto_if 51 with fail
  go_cut [] (fun wx => Kp w [(g, PkC (onl8 L q7) A n c, 27), (w.heap.size, PkC p A n c, 27), (w.heap.size + 1, PkC zPk none 0 0, 27)] wx)
  case first =>
    cases hd : hasB L 112
    · go_wp2_with fail
      go_meet
      case rel => (unfold onl8; simp only [hd, Bool.false_eq_true, if_false]; exact hK7.set HNE.out _)
    · go_wp2_with fail
      go_meet
      case rel => (unfold onl8; simp only [hd, if_true]; exact hK7)
  clear hK7 p1r p1f p1c p1l p1z p2r p2f p2c p2l p2z p3r p3f p3c p3l p3z
  have hK7 := hcut
  clear hcut
  obtain ⟨q8, hq8⟩ : ∃ q, q = onl8 L q7 := ⟨_, rfl⟩
  rw [← hq8] at hK7
  have HQ8 := Lib.hid hq8
  clear hq8
  go_upto_region 15 with fail
  have p1r := hK7.row; have p1f := hK7.free; have p1c := hK7.cell; have p1l := hK7.lt; have p1z := hK7.froz
  have p2r := hK7.tail.row; have p2f := hK7.tail.free; have p2c := hK7.tail.cell; have p2l := hK7.tail.lt; have p2z := hK7.tail.froz
  have p3r := hK7.tail.tail.row; have p3f := hK7.tail.tail.free; have p3c := hK7.tail.tail.cell; have p3l := hK7.tail.tail.lt; have p3z := hK7.tail.tail.froz
  go_wp2_with fail
  refine (has_eq L 108 _ _ (by omega) rfl).mono ?_
  rintro e wh ⟨rfl, rfl⟩
  go_upto_if 55 with fail
  go_cut [] (fun wx => Kp w [(g, PkC (onl9 L q8) A n c, 27), (w.heap.size, PkC p A n c, 27), (w.heap.size + 1, PkC zPk none 0 0, 27)] wx)
  case first =>
    cases hd : hasB L 108
    · go_wp2_with fail
      go_meet
      case rel => (unfold onl9; simp only [hd, Bool.false_eq_true, if_false]; exact hK7.set HNE.out _)
    · go_wp2_with fail
      go_meet
      case rel => (unfold onl9; simp only [hd, if_true]; exact hK7)
  clear hK7 p1r p1f p1c p1l p1z p2r p2f p2c p2l p2z p3r p3f p3c p3l p3z
  have hK7 := hcut
  clear hcut
  obtain ⟨q9, hq9⟩ : ∃ q, q = onl9 L q8 := ⟨_, rfl⟩
  rw [← hq9] at hK7
  have HQ9 := Lib.hid hq9
  clear hq9
  go_upto_region 25 with fail
  have p1r := hK7.row; have p1f := hK7.free; have p1c := hK7.cell; have p1l := hK7.lt; have p1z := hK7.froz
  have p2r := hK7.tail.row; have p2f := hK7.tail.free; have p2c := hK7.tail.cell; have p2l := hK7.tail.lt; have p2z := hK7.tail.froz
  have p3r := hK7.tail.tail.row; have p3f := hK7.tail.tail.free; have p3c := hK7.tail.tail.cell; have p3l := hK7.tail.tail.lt; have p3z := hK7.tail.tail.froz
  go_wp2_with fail
  refine (has_eq L 111 _ _ (by omega) rfl).mono ?_
  rintro e wh ⟨rfl, rfl⟩
  go_upto_if 68 with fail
  go_cut [] (fun wx => Kp w [(g, PkC (onl10 L q9) A n c, 27), (w.heap.size, PkC p A n c, 27), (w.heap.size + 1, PkC zPk none 0 0, 27)] wx)
  case first =>
    cases hd : hasB L 111
    · go_wp2_with fail
      go_meet
      case rel => (unfold onl10; simp only [hd, Bool.false_eq_true, if_false]; exact hK7.set HNE.out _)
    · go_wp2_with fail
      go_meet
      case rel => (unfold onl10; simp only [hd, if_true]; exact hK7)
  clear hK7 p1r p1f p1c p1l p1z p2r p2f p2c p2l p2z p3r p3f p3c p3l p3z
  have hK7 := hcut
  clear hcut
  obtain ⟨q10, hq10⟩ : ∃ q, q = onl10 L q9 := ⟨_, rfl⟩
  rw [← hq10] at hK7
  have HQ10 := Lib.hid hq10
  clear hq10
  go_upto_region 27 with fail
  have p1r := hK7.row; have p1f := hK7.free; have p1c := hK7.cell; have p1l := hK7.lt; have p1z := hK7.froz
  have p2r := hK7.tail.row; have p2f := hK7.tail.free; have p2c := hK7.tail.cell; have p2l := hK7.tail.lt; have p2z := hK7.tail.froz
  have p3r := hK7.tail.tail.row; have p3f := hK7.tail.tail.free; have p3c := hK7.tail.tail.cell; have p3l := hK7.tail.tail.lt; have p3z := hK7.tail.tail.froz
  go_wp2_with fail
  refine (has_eq L 98 _ _ (by omega) rfl).mono ?_
  rintro e wh ⟨rfl, rfl⟩
  go_upto_if 72 with fail
  go_cut [] (fun wx => Kp w [(g, PkC q10 (if hasB L 98 = true then A else none) (if hasB L 98 = true then n else 0) (if hasB L 98 = true then c else 0), 27), (w.heap.size, PkC p A n c, 27), (w.heap.size + 1, PkC zPk none 0 0, 27)] wx)
  case first =>
    cases hd : hasB L 98
    · go_wp2_with fail
      go_meet
      case rel => (simp only [hd, Bool.false_eq_true, if_false]; exact hK7.set HNE.out _)
    · go_wp2_with fail
      go_meet
      case rel => (simp only [hd, if_true]; exact hK7)
  clear hK7 p1r p1f p1c p1l p1z p2r p2f p2c p2l p2z p3r p3f p3c p3l p3z
  have hK7 := hcut
  clear hcut
  obtain ⟨A', hA'⟩ : ∃ a, a = oA L A := ⟨_, rfl⟩
  obtain ⟨n', hn'⟩ : ∃ a, a = oN L n := ⟨_, rfl⟩
  obtain ⟨c', hc'⟩ : ∃ a, a = oN L c := ⟨_, rfl⟩
  rw [show (if hasB L 98 = true then A else none) = A' from hA'.symm, show (if hasB L 98 = true then n else 0) = n' from hn'.symm, show (if hasB L 98 = true then c else 0) = c' from hc'.symm] at hK7
  have HA' := Lib.hid hA'
  have HN' := Lib.hid hn'
  have HC' := Lib.hid hc'
  clear hA' hn' hc'
  obtain ⟨q11, hq11⟩ : ∃ q, q = onl11 L q10 := ⟨_, rfl⟩
  rw [show q10 = q11 by rw [hq11]; rfl] at hK7
  have HQ11 := Lib.hid hq11
  clear hq11
  go_upto_region 29 with fail
  have p1r := hK7.row; have p1f := hK7.free; have p1c := hK7.cell; have p1l := hK7.lt; have p1z := hK7.froz
  have p2r := hK7.tail.row; have p2f := hK7.tail.free; have p2c := hK7.tail.cell; have p2l := hK7.tail.lt; have p2z := hK7.tail.froz
  have p3r := hK7.tail.tail.row; have p3f := hK7.tail.tail.free; have p3c := hK7.tail.tail.cell; have p3l := hK7.tail.tail.lt; have p3z := hK7.tail.tail.froz
  go_wp2_with fail
  refine (has_eq L 109 _ _ (by omega) rfl).mono ?_
  rintro e wh ⟨rfl, rfl⟩
  go_upto_if 76 with fail
  go_cut [] (fun wx => Kp w [(g, PkC (onl12 L q11) A' n' c', 27), (w.heap.size, PkC p A n c, 27), (w.heap.size + 1, PkC zPk none 0 0, 27)] wx)
  case first =>
    cases hd : hasB L 109
    · go_wp2_with fail
      go_meet
      case rel => (unfold onl12; simp only [hd, Bool.false_eq_true, if_false]; exact hK7.set HNE.out _)
    · go_wp2_with fail
      go_meet
      case rel => (unfold onl12; simp only [hd, if_true]; exact hK7)
  clear hK7 p1r p1f p1c p1l p1z p2r p2f p2c p2l p2z p3r p3f p3c p3l p3z
  have hK7 := hcut
  clear hcut
  obtain ⟨q12, hq12⟩ : ∃ q, q = onl12 L q11 := ⟨_, rfl⟩
  rw [← hq12] at hK7
  have HQ12 := Lib.hid hq12
  clear hq12
  have HE : Hid (onlyP L p = q12) := by
    show _ = _
    unfold onlyP
    rw [HQ12.out, HQ11.out, HQ10.out, HQ9.out, HQ8.out, HQ7.out, HQ6.out, HQ5.out, HQ4.out, HQ3.out, HQ2.out, HQ1.out, HQ0.out]
  clear HQ0 HQ1 HQ2 HQ3 HQ4 HQ5 HQ6 HQ7 HQ8 HQ9 HQ10 HQ11 HQ12
  have p1r := hK7.row; have p1f := hK7.free; have p1c := hK7.cell; have p1l := hK7.lt; have p1z := hK7.froz
  have p2r := hK7.tail.row; have p2f := hK7.tail.free; have p2c := hK7.tail.cell; have p2l := hK7.tail.lt; have p2z := hK7.tail.froz
  have p3r := hK7.tail.tail.row; have p3f := hK7.tail.tail.free; have p3c := hK7.tail.tail.cell; have p3l := hK7.tail.tail.lt; have p3z := hK7.tail.tail.froz
  have hfin := hK7.below
  go_wp2_with fail
  refine ret_pk 2 _ q12 A' n' c' rfl rfl (by go_simp) rfl ⟨by rw [HE.out, HA'.out, HN'.out, HC'.out], ?_⟩
  repeat (first | exact hfin | refine below_setRow ?_ (by omega) _)
end Go.Proofs.YtphdooaihbmnlaaGreatDoor
