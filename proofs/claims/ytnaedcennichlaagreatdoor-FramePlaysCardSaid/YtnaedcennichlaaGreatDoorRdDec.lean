/-
  read: parseRest, parse, otherLevel, Decode.
-/
import Derived.Test.YtnaedcennichlaaGreatDoorMd
import Derived.Test.YtnaedcennichlaaGreatDoorPkG
set_option linter.unusedSimpArgs false
set_option linter.unusedVariables false
namespace Go.Proofs.YtnaedcennichlaaGreatDoor
open Go.RowKit
set_option maxRecDepth 100000
section
variable {w0 w : World} {g : Nat} {l : List UInt8} {f : Bool} {p : Pk} {t : TypeId} {L : List (Nat × Array Value × TypeId)}
/-- What a parser that has gone through a rest leaves. -/
def PAR (w0 : World) (g : Nat) (t : TypeId) (L : List (Nat × Array Value × TypeId)) (s : Ps) (X : List (List UInt8 × Int)) (e : Ending) (w' : World) : Prop :=
  e = .returned (.tuple #[]) ∧ ∃ A c, Kp w0 ((g, Rw s.l s.f (PkC s.p A X.length c), t) :: L) w' ∧ Subs w' A X.length X ∧ (A = none → c = 0) ∧ SubT w0.heap.size w' A X.length
theorem par_mk {w' : World} {s : Ps} (h : Kp w0 ((g, PsC s none 0 0, t) :: L) w') : PAR w0 g t L s [] (.returned (.tuple #[])) w' := ⟨rfl, none, 0, h, Subs.nil _, fun _ => rfl, fun hn => absurd hn (Nat.lt_irrefl 0)⟩
set_option maxHeartbeats 2000000 in
theorem pRest (h : Kp w0 ((g, Rw l f (PkC p none 0 0), t) :: L) w) (hne : ∀ x ∈ L, x.1 ≠ g) (ht : t ≠ 42) (hT : ∀ x ∈ L, x.2.2 ≠ 42) (hl : l.length ≤ 1000000) (b : Int) (b0 : 0 ≤ b) (b1 : b ≤ 255)
    (hty : p.ty = 1 ∨ p.ty = 2 ∨ p.ty = 3 ∨ p.ty = 4 ∨ p.ty = 5 ∨ p.ty = 6 ∨ p.ty = 7 ∨ p.ty = 8 ∨ p.ty = 9 ∨ p.ty = 10 ∨ p.ty = 11 ∨ p.ty = 12 ∨ p.ty = 13 ∨ p.ty = 14) :
    Calls Tryz.prog 53 #[.pointer (some ⟨g, 0, none⟩), .int .u8 b] w fun e w' => PAR w0 g t L (psBody p.ty b ⟨l, f, p⟩) (psXs p.ty l f) e w' := by
  have hl9 : l.length ≤ 1000000000 := by omega
  have hK := h
  have a1r := h.row; have a1f := h.free; have a1c := h.cell; have a1l := h.lt; have a1z := h.froz
  clear h
  rcases hty with e | e | e | e | e | e | e | e | e | e | e | e | e | e
  all_goals
    obtain ⟨ty, hty⟩ : ∃ ty, ty = p.ty := ⟨_, rfl⟩
    rw [← hty]
    have hty2 := hty.symm.trans (show ty = _ from hty.trans e)
    have HTY := Lib.hid hty2
    rw [e] at hty
    subst hty
    clear e
  · have t1 : (p.ty == 1) = true := by rw [HTY.out]; rfl
    clear hty2
    go_enter Tryz.func53, Tryz.ntmps53
    go_wp2_with fail
    refine (pCon hK hne hl9).mono ?_
    rintro e w1 ⟨rfl, hK1⟩
    go_wp2_with fail
    go_end0
    exact par_mk hK1
  · have t1 : (p.ty == 1) = false := by rw [HTY.out]; rfl
    have t2 : (p.ty == 2) = true := by rw [HTY.out]; rfl
    clear hty2
    go_enter Tryz.func53, Tryz.ntmps53
    go_wp2_with fail
    refine (pAck hK hne hl9).mono ?_
    rintro e w1 ⟨rfl, hK1⟩
    go_wp2_with fail
    go_end0
    exact par_mk hK1
  · have t1 : (p.ty == 1) = false := by rw [HTY.out]; rfl
    have t2 : (p.ty == 2) = false := by rw [HTY.out]; rfl
    have t3 : (p.ty == 3) = true := by rw [HTY.out]; rfl
    clear hty2
    go_enter Tryz.func53, Tryz.ntmps53
    go_wp2_with fail
    refine (pPub hK hne hl9 b b0 b1).mono ?_
    rintro e w1 ⟨rfl, hK1⟩
    go_wp2_with fail
    go_end0
    exact par_mk hK1
  · have t1 : (p.ty == 1) = false := by rw [HTY.out]; rfl
    have t2 : (p.ty == 2) = false := by rw [HTY.out]; rfl
    have t3 : (p.ty == 3) = false := by rw [HTY.out]; rfl
    have t4 : (p.ty == 4) = (((4 : Int) == 4)) := by rw [HTY.out]
    have t5 : (p.ty == 5) = (((4 : Int) == 5)) := by rw [HTY.out]
    have t6 : (p.ty == 6) = (((4 : Int) == 6)) := by rw [HTY.out]
    have t7 : (p.ty == 7) = (((4 : Int) == 7)) := by rw [HTY.out]
    clear hty2
    go_enter Tryz.func53, Tryz.ntmps53
    go_wp2_with fail
    refine (rWord hK hne hl9).mono ?_
    rintro e w1 ⟨rfl, hK1⟩
    have hfin := hK1.set hne (PsC (psId ⟨l, f, p⟩) none 0 0)
    clear a1r a1f a1c a1l a1z hK
    have a1r := hK1.row; have a1f := hK1.free; have a1c := hK1.cell; have a1l := hK1.lt; have a1z := hK1.froz
    go_wp2_with fail
    go_end0
    exact par_mk hfin
  · have t1 : (p.ty == 1) = false := by rw [HTY.out]; rfl
    have t2 : (p.ty == 2) = false := by rw [HTY.out]; rfl
    have t3 : (p.ty == 3) = false := by rw [HTY.out]; rfl
    have t4 : (p.ty == 4) = (((5 : Int) == 4)) := by rw [HTY.out]
    have t5 : (p.ty == 5) = (((5 : Int) == 5)) := by rw [HTY.out]
    have t6 : (p.ty == 6) = (((5 : Int) == 6)) := by rw [HTY.out]
    have t7 : (p.ty == 7) = (((5 : Int) == 7)) := by rw [HTY.out]
    clear hty2
    go_enter Tryz.func53, Tryz.ntmps53
    go_wp2_with fail
    refine (rWord hK hne hl9).mono ?_
    rintro e w1 ⟨rfl, hK1⟩
    have hfin := hK1.set hne (PsC (psId ⟨l, f, p⟩) none 0 0)
    clear a1r a1f a1c a1l a1z hK
    have a1r := hK1.row; have a1f := hK1.free; have a1c := hK1.cell; have a1l := hK1.lt; have a1z := hK1.froz
    go_wp2_with fail
    go_end0
    exact par_mk hfin
  · have t1 : (p.ty == 1) = false := by rw [HTY.out]; rfl
    have t2 : (p.ty == 2) = false := by rw [HTY.out]; rfl
    have t3 : (p.ty == 3) = false := by rw [HTY.out]; rfl
    have t4 : (p.ty == 4) = (((6 : Int) == 4)) := by rw [HTY.out]
    have t5 : (p.ty == 5) = (((6 : Int) == 5)) := by rw [HTY.out]
    have t6 : (p.ty == 6) = (((6 : Int) == 6)) := by rw [HTY.out]
    have t7 : (p.ty == 7) = (((6 : Int) == 7)) := by rw [HTY.out]
    clear hty2
    go_enter Tryz.func53, Tryz.ntmps53
    go_wp2_with fail
    refine (rWord hK hne hl9).mono ?_
    rintro e w1 ⟨rfl, hK1⟩
    have hfin := hK1.set hne (PsC (psId ⟨l, f, p⟩) none 0 0)
    clear a1r a1f a1c a1l a1z hK
    have a1r := hK1.row; have a1f := hK1.free; have a1c := hK1.cell; have a1l := hK1.lt; have a1z := hK1.froz
    go_wp2_with fail
    go_end0
    exact par_mk hfin
  · have t1 : (p.ty == 1) = false := by rw [HTY.out]; rfl
    have t2 : (p.ty == 2) = false := by rw [HTY.out]; rfl
    have t3 : (p.ty == 3) = false := by rw [HTY.out]; rfl
    have t4 : (p.ty == 4) = (((7 : Int) == 4)) := by rw [HTY.out]
    have t5 : (p.ty == 5) = (((7 : Int) == 5)) := by rw [HTY.out]
    have t6 : (p.ty == 6) = (((7 : Int) == 6)) := by rw [HTY.out]
    have t7 : (p.ty == 7) = (((7 : Int) == 7)) := by rw [HTY.out]
    clear hty2
    go_enter Tryz.func53, Tryz.ntmps53
    go_wp2_with fail
    refine (rWord hK hne hl9).mono ?_
    rintro e w1 ⟨rfl, hK1⟩
    have hfin := hK1.set hne (PsC (psId ⟨l, f, p⟩) none 0 0)
    clear a1r a1f a1c a1l a1z hK
    have a1r := hK1.row; have a1f := hK1.free; have a1c := hK1.cell; have a1l := hK1.lt; have a1z := hK1.froz
    go_wp2_with fail
    go_end0
    exact par_mk hfin
  · have t1 : (p.ty == 1) = false := by rw [HTY.out]; rfl
    have t2 : (p.ty == 2) = false := by rw [HTY.out]; rfl
    have t3 : (p.ty == 3) = false := by rw [HTY.out]; rfl
    have t4 : (p.ty == 4) = false := by rw [HTY.out]; rfl
    have t5 : (p.ty == 5) = false := by rw [HTY.out]; rfl
    have t6 : (p.ty == 6) = false := by rw [HTY.out]; rfl
    have t7 : (p.ty == 7) = false := by rw [HTY.out]; rfl
    have t11 : (p.ty == 11) = false := by rw [HTY.out]; rfl
    have t8 : (p.ty == 8) = true := by rw [HTY.out]; rfl
    clear hty2
    go_enter Tryz.func53, Tryz.ntmps53
    go_wp2_with fail
    refine (pSubs hK hne ht hT hl 8 HTY.out (Or.inl rfl)).mono ?_
    rintro e w1 ⟨rfl, A, c, hK1, hS, hc, hst⟩
    have HS := Lib.hid hS
    have HC := Lib.hid hc
    have HT := Lib.hid hst
    clear hS hc hst
    go_wp2_with fail
    go_end0
    exact ⟨rfl, A, c, hK1, HS.out, HC.out, HT.out⟩
  · have t1 : (p.ty == 1) = false := by rw [HTY.out]; rfl
    have t2 : (p.ty == 2) = false := by rw [HTY.out]; rfl
    have t3 : (p.ty == 3) = false := by rw [HTY.out]; rfl
    have t4 : (p.ty == 4) = false := by rw [HTY.out]; rfl
    have t5 : (p.ty == 5) = false := by rw [HTY.out]; rfl
    have t6 : (p.ty == 6) = false := by rw [HTY.out]; rfl
    have t7 : (p.ty == 7) = false := by rw [HTY.out]; rfl
    have t11 : (p.ty == 11) = false := by rw [HTY.out]; rfl
    have t8 : (p.ty == 8) = false := by rw [HTY.out]; rfl
    have t10 : (p.ty == 10) = false := by rw [HTY.out]; rfl
    have t9 : (p.ty == 9) = true := by rw [HTY.out]; rfl
    clear hty2
    go_enter Tryz.func53, Tryz.ntmps53
    go_wp2_with fail
    refine (rWord hK hne hl9).mono ?_
    rintro e w1 ⟨rfl, hK1⟩
    have hK2 := hK1.set hne (PsC (psId ⟨l, f, p⟩) none 0 0)
    clear a1r a1f a1c a1l a1z hK
    have a1r := hK1.row; have a1f := hK1.free; have a1c := hK1.cell; have a1l := hK1.lt; have a1z := hK1.froz
    go_wp2_with fail
    refine (rAll hK2 hne (wo_le hl9)).mono ?_
    rintro e w2 ⟨rfl, hK3⟩
    have hfin := hK3.set hne (PsC (psCodes (psId ⟨l, f, p⟩)) none 0 0)
    clear a1r a1f a1c a1l a1z hK1 hK2
    have a1r := hK3.row; have a1f := hK3.free; have a1c := hK3.cell; have a1l := hK3.lt; have a1z := hK3.froz
    go_wp2_with fail
    go_end0
    exact par_mk hfin
  · have t1 : (p.ty == 1) = false := by rw [HTY.out]; rfl
    have t2 : (p.ty == 2) = false := by rw [HTY.out]; rfl
    have t3 : (p.ty == 3) = false := by rw [HTY.out]; rfl
    have t4 : (p.ty == 4) = false := by rw [HTY.out]; rfl
    have t5 : (p.ty == 5) = false := by rw [HTY.out]; rfl
    have t6 : (p.ty == 6) = false := by rw [HTY.out]; rfl
    have t7 : (p.ty == 7) = false := by rw [HTY.out]; rfl
    have t11 : (p.ty == 11) = false := by rw [HTY.out]; rfl
    have t8 : (p.ty == 8) = false := by rw [HTY.out]; rfl
    have t10 : (p.ty == 10) = true := by rw [HTY.out]; rfl
    clear hty2
    go_enter Tryz.func53, Tryz.ntmps53
    go_wp2_with fail
    refine (pSubs hK hne ht hT hl 10 HTY.out (Or.inr rfl)).mono ?_
    rintro e w1 ⟨rfl, A, c, hK1, hS, hc, hst⟩
    have HS := Lib.hid hS
    have HC := Lib.hid hc
    have HT := Lib.hid hst
    clear hS hc hst
    go_wp2_with fail
    go_end0
    exact ⟨rfl, A, c, hK1, HS.out, HC.out, HT.out⟩
  · have t1 : (p.ty == 1) = false := by rw [HTY.out]; rfl
    have t2 : (p.ty == 2) = false := by rw [HTY.out]; rfl
    have t3 : (p.ty == 3) = false := by rw [HTY.out]; rfl
    have t4 : (p.ty == 4) = false := by rw [HTY.out]; rfl
    have t5 : (p.ty == 5) = false := by rw [HTY.out]; rfl
    have t6 : (p.ty == 6) = false := by rw [HTY.out]; rfl
    have t7 : (p.ty == 7) = false := by rw [HTY.out]; rfl
    have t11 : (p.ty == 11) = true := by rw [HTY.out]; rfl
    clear hty2
    go_enter Tryz.func53, Tryz.ntmps53
    go_wp2_with fail
    refine (rWord hK hne hl9).mono ?_
    rintro e w1 ⟨rfl, hK1⟩
    have hfin := hK1.set hne (PsC (psId ⟨l, f, p⟩) none 0 0)
    clear a1r a1f a1c a1l a1z hK
    have a1r := hK1.row; have a1f := hK1.free; have a1c := hK1.cell; have a1l := hK1.lt; have a1z := hK1.froz
    go_wp2_with fail
    go_end0
    exact par_mk hfin
  · have t1 : (p.ty == 1) = false := by rw [HTY.out]; rfl
    have t2 : (p.ty == 2) = false := by rw [HTY.out]; rfl
    have t3 : (p.ty == 3) = false := by rw [HTY.out]; rfl
    have t4 : (p.ty == 4) = false := by rw [HTY.out]; rfl
    have t5 : (p.ty == 5) = false := by rw [HTY.out]; rfl
    have t6 : (p.ty == 6) = false := by rw [HTY.out]; rfl
    have t7 : (p.ty == 7) = false := by rw [HTY.out]; rfl
    have t11 : (p.ty == 11) = false := by rw [HTY.out]; rfl
    have t8 : (p.ty == 8) = false := by rw [HTY.out]; rfl
    have t10 : (p.ty == 10) = false := by rw [HTY.out]; rfl
    have t9 : (p.ty == 9) = false := by rw [HTY.out]; rfl
    clear hty2
    go_enter Tryz.func53, Tryz.ntmps53
    go_wp2_with fail
    go_end0
    exact par_mk hK
  · have t1 : (p.ty == 1) = false := by rw [HTY.out]; rfl
    have t2 : (p.ty == 2) = false := by rw [HTY.out]; rfl
    have t3 : (p.ty == 3) = false := by rw [HTY.out]; rfl
    have t4 : (p.ty == 4) = false := by rw [HTY.out]; rfl
    have t5 : (p.ty == 5) = false := by rw [HTY.out]; rfl
    have t6 : (p.ty == 6) = false := by rw [HTY.out]; rfl
    have t7 : (p.ty == 7) = false := by rw [HTY.out]; rfl
    have t11 : (p.ty == 11) = false := by rw [HTY.out]; rfl
    have t8 : (p.ty == 8) = false := by rw [HTY.out]; rfl
    have t10 : (p.ty == 10) = false := by rw [HTY.out]; rfl
    have t9 : (p.ty == 9) = false := by rw [HTY.out]; rfl
    clear hty2
    go_enter Tryz.func53, Tryz.ntmps53
    go_wp2_with fail
    go_end0
    exact par_mk hK
  · have t1 : (p.ty == 1) = false := by rw [HTY.out]; rfl
    have t2 : (p.ty == 2) = false := by rw [HTY.out]; rfl
    have t3 : (p.ty == 3) = false := by rw [HTY.out]; rfl
    have t4 : (p.ty == 4) = false := by rw [HTY.out]; rfl
    have t5 : (p.ty == 5) = false := by rw [HTY.out]; rfl
    have t6 : (p.ty == 6) = false := by rw [HTY.out]; rfl
    have t7 : (p.ty == 7) = false := by rw [HTY.out]; rfl
    have t11 : (p.ty == 11) = false := by rw [HTY.out]; rfl
    have t8 : (p.ty == 8) = false := by rw [HTY.out]; rfl
    have t10 : (p.ty == 10) = false := by rw [HTY.out]; rfl
    have t9 : (p.ty == 9) = false := by rw [HTY.out]; rfl
    clear hty2
    go_enter Tryz.func53, Tryz.ntmps53
    go_wp2_with fail
    go_end0
    exact par_mk hK
end
end Go.Proofs.YtnaedcennichlaaGreatDoor
