/-
  read: what the parser does with a CONNECT, with Subs, with any rest.
-/
import Derived.Test.YtncgkkhpcgdcaaaDoorRdPar
set_option linter.unusedSimpArgs false
set_option linter.unusedVariables false
namespace Go.Proofs.YtncgkkhpcgdcaaaDoor
open Go.RowKit
set_option maxRecDepth 100000
theorem name_le {s : Ps} (h : s.l.length ≤ 1000000000) : (psName s).l.length ≤ 1000000000 := by
  unfold psName
  split
  · exact gt_bd h
  · simp
theorem tail_le {l : List UInt8} (h : l.length ≤ 1000000000) : l.tail.length ≤ 1000000000 := by rw [List.length_tail]; omega
theorem wo_le {l : List UInt8} (h : l.length ≤ 1000000000) : (woL l).length ≤ 1000000000 := Nat.le_trans (woL_le l) h
theorem flag_le {s : Ps} (h : s.l.length ≤ 1000000000) : (psFlag s).l.length ≤ 1000000000 := by
  unfold psFlag
  split
  · simp
  · exact tail_le h
theorem will_le {b : Int} {s : Ps} (h : s.l.length ≤ 1000000000) : (psWill b s).l.length ≤ 1000000000 := by
  unfold psWill
  split
  · exact gt_bd (gt_bd h)
  · exact h
section
variable {w0 w : World} {g : Nat} {l : List UInt8} {f : Bool} {p : Pk} {A : Option Addr} {n c : Nat} {t : TypeId} {L : List (Nat × Array Value × TypeId)}
set_option maxHeartbeats 2000000 in
theorem pCon (h : Kp w0 ((g, Rw l f (PkC p A n c), t) :: L) w) (hne : ∀ x ∈ L, x.1 ≠ g) (hl : l.length ≤ 1000000000) :
    Calls Tryd.prog 56 #[.pointer (some ⟨g, 0, none⟩)] w fun e w' => e = .returned (.tuple #[]) ∧ Kp w0 ((g, PsC (psCon ⟨l, f, p⟩) A n c, t) :: L) w' := by
  obtain ⟨s1, hs1⟩ : ∃ s1, s1 = psName ⟨l, f, p⟩ := ⟨_, rfl⟩
  have hl1 : s1.l.length ≤ 1000000000 := by rw [hs1]; exact name_le hl
  have HR : Hid (psCon ⟨l, f, p⟩ = psLogin (byV (psLevel s1).l) (psWill (byV (psLevel s1).l) (psClient (psKeep (psFlag (psLevel s1)))))) := by show _ = _; rw [hs1]; rfl
  rw [HR.out]
  clear HR
  have hl2 : (psLevel s1).l.length ≤ 1000000000 := tail_le hl1
  have hl3 : (psFlag (psLevel s1)).l.length ≤ 1000000000 := flag_le hl2
  have hl4 : (psKeep (psFlag (psLevel s1))).l.length ≤ 1000000000 := wo_le hl3
  have hl5 : (psClient (psKeep (psFlag (psLevel s1)))).l.length ≤ 1000000000 := gt_bd hl4
  obtain ⟨b, hb⟩ : ∃ b, b = byV (psLevel s1).l := ⟨_, rfl⟩
  obtain ⟨s3, hs3⟩ : ∃ s3, s3 = psFlag (psLevel s1) := ⟨_, rfl⟩
  have hbd := by_bd (psLevel s1).l
  have HFL : Hid (psFlag (psLevel s1) = if bitB (byV (psLevel s1).l) 1 then ⟨[], true, (psLevel s1).p.s_clean (bitB (byV (psLevel s1).l) 2)⟩ else ⟨(psLevel s1).l.tail, byF (psLevel s1).l (psLevel s1).f, (psLevel s1).p.s_clean (bitB (byV (psLevel s1).l) 2)⟩) := rfl
  rw [← hb] at hbd HFL ⊢
  rw [← hs3] at HFL hl3 hl4 hl5 ⊢
  obtain ⟨e1, e2, _, _, _, _, _⟩ := bits_of hbd.1 hbd.2
  have HB := Lib.hid hb
  have HS1 := Lib.hid hs1
  clear hb hs1 hs3
  have HNAME : Hid (psName ⟨l, f, p⟩ = if gtV (getR l) = nameL then ⟨gtL l (getR l), gtF f (getR l), p⟩ else ⟨[], true, p⟩) := rfl
  by_cases hn : gtV (getR l) = nameL
  · have e3 : (gtV (getR l) == [77, 81, 84, 84]) = true := by rw [hn]; rfl
    have HS2 : Hid (s1 = ⟨gtL l (getR l), gtF f (getR l), p⟩) := by show _ = _; rw [HS1.out, HNAME.out, if_pos hn]
    clear hn HNAME
    cases hbit : bitB b 1 with
    | true =>
      rw [hbit] at e1
      have HF : Hid (s3 = ⟨[], true, (psLevel s1).p.s_clean (bitB b 2)⟩) := by show _ = _; rw [HFL.out, hbit]; rfl
      clear hbit HFL
      go_enter Tryd.func56, Tryd.ntmps56
      go_wp2_with fail
      refine (rText h hne hl).mono ?_
      rintro e w1 ⟨rfl, hK1⟩
      have hK : Kp w0 ((g, PsC s1 A n c, t) :: L) w1 := by rw [HS2.out]; exact hK1
      clear hK1 h
      go_wp2_with fail
      refine (rByte hK hne hl1).mono ?_
      rintro e w2 ⟨rfl, hK2⟩
      clear hK
      have hK3 := hK2.set hne (PsC (psLevel s1) A n c)
      have a1r := hK2.row; have a1f := hK2.free; have a1c := hK2.cell; have a1l := hK2.lt; have a1z := hK2.froz
      go_wp2_with fail
      refine (rByte hK3 hne hl2).mono ?_
      rintro e w3 ⟨rfl, hK4⟩
      clear a1r a1f a1c a1l a1z hK2 hK3
      rw [← HB.out]
      go_wp2_with fail
      refine (rFail hK4 hne).mono ?_
      rintro e w4 ⟨rfl, hK5⟩
      clear hK4
      have hK4 := hK5
      clear hK5
      have hK5 := hK4.set hne (Rw [] true (PkC ((psLevel s1).p.s_clean (bitB b 2)) A n c))
      have a1r := hK4.row; have a1f := hK4.free; have a1c := hK4.cell; have a1l := hK4.lt; have a1z := hK4.froz
      go_wp2_with fail
      have hK6 : Kp w0 ((g, PsC s3 A n c, t) :: L) (w4.setRow g (Rw [] true (PkC ((psLevel s1).p.s_clean (bitB b 2)) A n c))) := by rw [HF.out]; exact hK5
      clear hK5
      clear a1r a1f a1c a1l a1z hK4
      refine (rWord hK6 hne hl3).mono ?_
      rintro e w5 ⟨rfl, hK7⟩
      have hK8 := hK7.set hne (PsC (psKeep s3) A n c)
      have a1r := hK7.row; have a1f := hK7.free; have a1c := hK7.cell; have a1l := hK7.lt; have a1z := hK7.froz
      go_wp2_with fail
      refine (rText hK8 hne hl4).mono ?_
      rintro e w6 ⟨rfl, hK9⟩
      clear a1r a1f a1c a1l a1z hK6 hK7 hK8
      have hK8 := hK9.set hne (PsC (psClient (psKeep s3)) A n c)
      have a1r := hK9.row; have a1f := hK9.free; have a1c := hK9.cell; have a1l := hK9.lt; have a1z := hK9.froz
      go_wp2_with fail
      refine (pWill hK8 hne hl5 b hbd.1 hbd.2).mono ?_
      rintro e w7 ⟨rfl, hK10⟩
      clear a1r a1f a1c a1l a1z hK8 hK9
      go_wp2_with fail
      refine (pLogin hK10 hne (will_le hl5) b hbd.1 hbd.2).mono ?_
      rintro e w8 ⟨rfl, hK11⟩
      go_wp2_with fail
      go_end0
      exact ⟨rfl, hK11⟩
    | false =>
      rw [hbit] at e1
      have HF : Hid (s3 = ⟨(psLevel s1).l.tail, byF (psLevel s1).l (psLevel s1).f, (psLevel s1).p.s_clean (bitB b 2)⟩) := by show _ = _; rw [HFL.out, hbit]; rfl
      clear hbit HFL
      go_enter Tryd.func56, Tryd.ntmps56
      go_wp2_with fail
      refine (rText h hne hl).mono ?_
      rintro e w1 ⟨rfl, hK1⟩
      have hK : Kp w0 ((g, PsC s1 A n c, t) :: L) w1 := by rw [HS2.out]; exact hK1
      clear hK1 h
      go_wp2_with fail
      refine (rByte hK hne hl1).mono ?_
      rintro e w2 ⟨rfl, hK2⟩
      clear hK
      have hK3 := hK2.set hne (PsC (psLevel s1) A n c)
      have a1r := hK2.row; have a1f := hK2.free; have a1c := hK2.cell; have a1l := hK2.lt; have a1z := hK2.froz
      go_wp2_with fail
      refine (rByte hK3 hne hl2).mono ?_
      rintro e w3 ⟨rfl, hK4⟩
      clear a1r a1f a1c a1l a1z hK2 hK3
      rw [← HB.out]
      have hK5 := hK4.set hne (Rw (psLevel s1).l.tail (byF (psLevel s1).l (psLevel s1).f) (PkC ((psLevel s1).p.s_clean (bitB b 2)) A n c))
      have a1r := hK4.row; have a1f := hK4.free; have a1c := hK4.cell; have a1l := hK4.lt; have a1z := hK4.froz
      go_wp2_with fail
      have hK6 : Kp w0 ((g, PsC s3 A n c, t) :: L) (w3.setRow g (Rw (psLevel s1).l.tail (byF (psLevel s1).l (psLevel s1).f) (PkC ((psLevel s1).p.s_clean (bitB b 2)) A n c))) := by rw [HF.out]; exact hK5
      clear hK5
      clear a1r a1f a1c a1l a1z hK4
      refine (rWord hK6 hne hl3).mono ?_
      rintro e w5 ⟨rfl, hK7⟩
      have hK8 := hK7.set hne (PsC (psKeep s3) A n c)
      have a1r := hK7.row; have a1f := hK7.free; have a1c := hK7.cell; have a1l := hK7.lt; have a1z := hK7.froz
      go_wp2_with fail
      refine (rText hK8 hne hl4).mono ?_
      rintro e w6 ⟨rfl, hK9⟩
      clear a1r a1f a1c a1l a1z hK6 hK7 hK8
      have hK8 := hK9.set hne (PsC (psClient (psKeep s3)) A n c)
      have a1r := hK9.row; have a1f := hK9.free; have a1c := hK9.cell; have a1l := hK9.lt; have a1z := hK9.froz
      go_wp2_with fail
      refine (pWill hK8 hne hl5 b hbd.1 hbd.2).mono ?_
      rintro e w7 ⟨rfl, hK10⟩
      clear a1r a1f a1c a1l a1z hK8 hK9
      go_wp2_with fail
      refine (pLogin hK10 hne (will_le hl5) b hbd.1 hbd.2).mono ?_
      rintro e w8 ⟨rfl, hK11⟩
      go_wp2_with fail
      go_end0
      exact ⟨rfl, hK11⟩
  · have e3 : (gtV (getR l) == [77, 81, 84, 84]) = false := by rw [beq_eq_false_iff_ne]; exact hn
    have HS2 : Hid (s1 = ⟨[], true, p⟩) := by show _ = _; rw [HS1.out, HNAME.out, if_neg hn]
    clear hn HNAME
    cases hbit : bitB b 1 with
    | true =>
      rw [hbit] at e1
      have HF : Hid (s3 = ⟨[], true, (psLevel s1).p.s_clean (bitB b 2)⟩) := by show _ = _; rw [HFL.out, hbit]; rfl
      clear hbit HFL
      go_enter Tryd.func56, Tryd.ntmps56
      go_wp2_with fail
      refine (rText h hne hl).mono ?_
      rintro e w1 ⟨rfl, hK1⟩
      clear h
      go_wp2_with fail
      refine (rFail hK1 hne).mono ?_
      rintro e w2 ⟨rfl, hK2⟩
      have hK : Kp w0 ((g, PsC s1 A n c, t) :: L) w2 := by rw [HS2.out]; exact hK2
      clear hK1 hK2
      go_wp2_with fail
      refine (rByte hK hne hl1).mono ?_
      rintro e w2 ⟨rfl, hK2⟩
      clear hK
      have hK3 := hK2.set hne (PsC (psLevel s1) A n c)
      have a1r := hK2.row; have a1f := hK2.free; have a1c := hK2.cell; have a1l := hK2.lt; have a1z := hK2.froz
      go_wp2_with fail
      refine (rByte hK3 hne hl2).mono ?_
      rintro e w3 ⟨rfl, hK4⟩
      clear a1r a1f a1c a1l a1z hK2 hK3
      rw [← HB.out]
      go_wp2_with fail
      refine (rFail hK4 hne).mono ?_
      rintro e w4 ⟨rfl, hK5⟩
      clear hK4
      have hK4 := hK5
      clear hK5
      have hK5 := hK4.set hne (Rw [] true (PkC ((psLevel s1).p.s_clean (bitB b 2)) A n c))
      have a1r := hK4.row; have a1f := hK4.free; have a1c := hK4.cell; have a1l := hK4.lt; have a1z := hK4.froz
      go_wp2_with fail
      have hK6 : Kp w0 ((g, PsC s3 A n c, t) :: L) (w4.setRow g (Rw [] true (PkC ((psLevel s1).p.s_clean (bitB b 2)) A n c))) := by rw [HF.out]; exact hK5
      clear hK5
      clear a1r a1f a1c a1l a1z hK4
      refine (rWord hK6 hne hl3).mono ?_
      rintro e w5 ⟨rfl, hK7⟩
      have hK8 := hK7.set hne (PsC (psKeep s3) A n c)
      have a1r := hK7.row; have a1f := hK7.free; have a1c := hK7.cell; have a1l := hK7.lt; have a1z := hK7.froz
      go_wp2_with fail
      refine (rText hK8 hne hl4).mono ?_
      rintro e w6 ⟨rfl, hK9⟩
      clear a1r a1f a1c a1l a1z hK6 hK7 hK8
      have hK8 := hK9.set hne (PsC (psClient (psKeep s3)) A n c)
      have a1r := hK9.row; have a1f := hK9.free; have a1c := hK9.cell; have a1l := hK9.lt; have a1z := hK9.froz
      go_wp2_with fail
      refine (pWill hK8 hne hl5 b hbd.1 hbd.2).mono ?_
      rintro e w7 ⟨rfl, hK10⟩
      clear a1r a1f a1c a1l a1z hK8 hK9
      go_wp2_with fail
      refine (pLogin hK10 hne (will_le hl5) b hbd.1 hbd.2).mono ?_
      rintro e w8 ⟨rfl, hK11⟩
      go_wp2_with fail
      go_end0
      exact ⟨rfl, hK11⟩
    | false =>
      rw [hbit] at e1
      have HF : Hid (s3 = ⟨(psLevel s1).l.tail, byF (psLevel s1).l (psLevel s1).f, (psLevel s1).p.s_clean (bitB b 2)⟩) := by show _ = _; rw [HFL.out, hbit]; rfl
      clear hbit HFL
      go_enter Tryd.func56, Tryd.ntmps56
      go_wp2_with fail
      refine (rText h hne hl).mono ?_
      rintro e w1 ⟨rfl, hK1⟩
      clear h
      go_wp2_with fail
      refine (rFail hK1 hne).mono ?_
      rintro e w2 ⟨rfl, hK2⟩
      have hK : Kp w0 ((g, PsC s1 A n c, t) :: L) w2 := by rw [HS2.out]; exact hK2
      clear hK1 hK2
      go_wp2_with fail
      refine (rByte hK hne hl1).mono ?_
      rintro e w2 ⟨rfl, hK2⟩
      clear hK
      have hK3 := hK2.set hne (PsC (psLevel s1) A n c)
      have a1r := hK2.row; have a1f := hK2.free; have a1c := hK2.cell; have a1l := hK2.lt; have a1z := hK2.froz
      go_wp2_with fail
      refine (rByte hK3 hne hl2).mono ?_
      rintro e w3 ⟨rfl, hK4⟩
      clear a1r a1f a1c a1l a1z hK2 hK3
      rw [← HB.out]
      have hK5 := hK4.set hne (Rw (psLevel s1).l.tail (byF (psLevel s1).l (psLevel s1).f) (PkC ((psLevel s1).p.s_clean (bitB b 2)) A n c))
      have a1r := hK4.row; have a1f := hK4.free; have a1c := hK4.cell; have a1l := hK4.lt; have a1z := hK4.froz
      go_wp2_with fail
      have hK6 : Kp w0 ((g, PsC s3 A n c, t) :: L) (w3.setRow g (Rw (psLevel s1).l.tail (byF (psLevel s1).l (psLevel s1).f) (PkC ((psLevel s1).p.s_clean (bitB b 2)) A n c))) := by rw [HF.out]; exact hK5
      clear hK5
      clear a1r a1f a1c a1l a1z hK4
      refine (rWord hK6 hne hl3).mono ?_
      rintro e w5 ⟨rfl, hK7⟩
      have hK8 := hK7.set hne (PsC (psKeep s3) A n c)
      have a1r := hK7.row; have a1f := hK7.free; have a1c := hK7.cell; have a1l := hK7.lt; have a1z := hK7.froz
      go_wp2_with fail
      refine (rText hK8 hne hl4).mono ?_
      rintro e w6 ⟨rfl, hK9⟩
      clear a1r a1f a1c a1l a1z hK6 hK7 hK8
      have hK8 := hK9.set hne (PsC (psClient (psKeep s3)) A n c)
      have a1r := hK9.row; have a1f := hK9.free; have a1c := hK9.cell; have a1l := hK9.lt; have a1z := hK9.froz
      go_wp2_with fail
      refine (pWill hK8 hne hl5 b hbd.1 hbd.2).mono ?_
      rintro e w7 ⟨rfl, hK10⟩
      clear a1r a1f a1c a1l a1z hK8 hK9
      go_wp2_with fail
      refine (pLogin hK10 hne (will_le hl5) b hbd.1 hbd.2).mono ?_
      rintro e w8 ⟨rfl, hK11⟩
      go_wp2_with fail
      go_end0
      exact ⟨rfl, hK11⟩
end
end Go.Proofs.YtncgkkhpcgdcaaaDoor
