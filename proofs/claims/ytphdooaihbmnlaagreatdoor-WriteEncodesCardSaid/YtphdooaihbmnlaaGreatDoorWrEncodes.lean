/-
  WriteEncodes.
-/
import Derived.Test.YtphdooaihbmnlaaGreatDoorWrLaw
import Derived.Test.YtphdooaihbmnlaaGreatDoorWrEncM
set_option linter.unusedSimpArgs false
set_option linter.unusedVariables false
namespace Go.Proofs.YtphdooaihbmnlaaGreatDoor
open Go.RowKit
set_option maxRecDepth 100000
namespace lawWriteEncodes
set_option maxHeartbeats 4000000 in
theorem walk (w : World) (hG : Glo w) (p : Pk) (A : Option Addr) (n c : Nat) (xs : List (List UInt8 × Int)) (hs : Subs w A n xs) (hc : A = none → c = 0) (hp : Came p xs) :
    Calls Tryz.prog 3 #[.agg (PkC p A n c)] w fun e w' => e = .returned (.bool true) ∧ Below w.heap.size w w' := by
  have hK0 := (Kp.nil w).new (PkC p A n c) 27
  have hn1 := hs.len
  have HG := Lib.hid hG
  have HS := Lib.hid hs
  have HC := Lib.hid hp
  have HZ := Lib.hid hc
  clear hG hs hp hc
  go_enter Tryz.func3, Tryz.ntmps3
  go_wp2_with fail
  refine (great_any p A n c xs _ (HS.out.below hK0.below) HC.out).mono ?_
  rintro e w1 ⟨g, rfl, hgr, hb1⟩
  have hK1 := hK0.more hb1
  clear hb1 hK0
  have a1r := hK1.row; have a1f := hK1.free; have a1c := hK1.cell; have a1l := hK1.lt; have a1z := hK1.froz
  cases g with
  | true =>
    clear hgr
    go_wp2_with fail
    refine (awake_any _ (HG.out.below hK1.below)).mono ?_
    rintro e w2 ⟨rfl, hb2⟩
    go_wp2_with fail
    go_ret
    exact ⟨rfl, below_more hK1.below hb2⟩
  | false =>
    have hF := fit_came HC.out (hgr rfl).1 (hgr rfl).2
    clear hgr
    have HF := Lib.hid hF
    clear hF
    obtain ⟨S, er, hS⟩ : ∃ S er, encR p xs = (S, er) := ⟨_, _, rfl⟩
    have Z1 : Hid (sizR p xs = (S.length : Int)) := by
      show _ = _
      by_cases h0 : 0 ≤ restN p xs
      · have h1 : er = 0 := by unfold encR at hS; rw [if_pos h0] at hS; exact (congrArg Prod.snd hS).symm
        subst h1
        exact (encR_ok hS).2.2
      · unfold encR at hS
        rw [if_neg h0] at hS
        unfold sizR
        rw [if_neg h0]
        have h2 : S = [] := (congrArg Prod.fst hS).symm
        rw [h2]
        rfl
    have E1 := Lib.hid hS
    clear hS
    go_wp2_with fail
    refine (encode_eq p A n c xs S er _ (HG.out.below hK1.below) (HS.out.below hK1.below) HZ.out HF.out E1.out).mono ?_
    rintro e w3 ⟨rfl, hb3⟩
    have hK2 := hK1.more hb3
    clear hb3 hK1 a1r a1f a1c a1l a1z
    have a1r := hK2.row; have a1f := hK2.free; have a1c := hK2.cell; have a1l := hK2.lt; have a1z := hK2.froz
    go_wp2_with fail
    refine (refEnc_eq p A n c xs S er (HS.out.below hK2.below) HF.out E1.out).mono ?_
    rintro e w4 ⟨rfl, hb4⟩
    have hK3 := hK2.more hb4
    clear hb4 hK2 a1r a1f a1c a1l a1z
    have a1r := hK3.row; have a1f := hK3.free; have a1c := hK3.cell; have a1l := hK3.lt; have a1z := hK3.froz
    go_wp2_with fail
    refine (size_eq p A n c xs (S.length : Int) _ (HG.out.below hK3.below) (HS.out.below hK3.below) HF.out Z1.out).mono ?_
    rintro e w5 ⟨rfl, hb5⟩
    have hK4 := hK3.more hb5
    clear hb5 hK3 a1r a1f a1c a1l a1z
    go_wp2_with fail
    refine (awake_any _ (HG.out.below hK4.below)).mono ?_
    rintro e w6 ⟨rfl, hb6⟩
    go_wp2_with fail
    go_ret
    exact ⟨rfl, below_more hK4.below hb6⟩
end lawWriteEncodes
end Go.Proofs.YtphdooaihbmnlaaGreatDoor
