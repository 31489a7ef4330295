/-
  write: what is put behind one another. (By tools/genwrb.py.)
-/
import Derived.Test.YtncgkkhpcgdcaaaGreatDoorWrA
import Derived.Test.YtncgkkhpcgdcaaaGreatDoorWrInj
import Derived.Test.YtncgkkhpcgdcaaaGreatDoorPkI
import Derived.Deep.Cut
set_option linter.unusedSimpArgs false
set_option linter.unusedVariables false
namespace Go.Proofs.YtncgkkhpcgdcaaaGreatDoor
open Go.RowKit
section
variable {w0 : World} {b : Nat} {l : List UInt8} {L : List (Nat × Array Value × TypeId)} {w : World}
theorem ne_pk : (36 : TypeId) ≠ 5 := by decide
theorem ne_sb : (42 : TypeId) ≠ 5 := by decide
theorem putPublish_pos (h : Kb w0 b l L w) (p : Pk) (A : Option Addr) (n c : Nat) (hv : valB p.topic = true) (hq : 0 < p.qos) (hi : 0 ≤ p.id ∧ p.id ≤ 65535) (hp : p.load.length ≤ 1000000000) (hl : l.length ≤ 1099511627776) :
    Calls Tryz.prog 72 #[.pointer (some ⟨b, 0, none⟩), .agg (PkC p A n c)] w fun e w' => e = .returned (.tuple #[]) ∧ Kb w0 b (l ++ pubX p) L w' := by
  have hK0 := h.new (PkC p A n c) 36 ne_pk
  have ht := val_len hv
  have HV := Lib.hid hv
  have hg : decide (0 < p.qos) = true := by simpa using hq
  have HX : Hid (pubX p = fieldL p.topic ++ (wordL p.id ++ p.load)) := by show _ = _; unfold pubX; rw [if_pos hq]
  clear hv hq h
  go_enter Tryz.func72, Tryz.ntmps72
  go_wp2_with fail
  refine (putText_any hK0 p.topic HV.out (by omega)).mono ?_
  rintro e w6 ⟨rfl, hK1⟩
  clear hK0
  have a1r := hK1.row; have a1f := hK1.free; have a1c := hK1.cell; have a1l := hK1.lt; have a1z := hK1.froz
  go_wp2_with fail
  refine (putWord_any hK1 p.id hi.1 hi.2 (by rw [List.length_append, fieldL_len]; omega)).mono ?_
  rintro e w6 ⟨rfl, hK2⟩
  clear a1r a1f a1c a1l a1z
  clear hK1
  have a1r := hK2.row; have a1f := hK2.free; have a1c := hK2.cell; have a1l := hK2.lt; have a1z := hK2.froz
  go_wp2_with fail
  refine (wStr hK2 p.load (by omega) (by simp only [List.length_append, fieldL_len, wordL_len]; omega)).mono ?_
  rintro e w6 ⟨rfl, hK3⟩
  clear a1r a1f a1c a1l a1z
  clear hK2
  go_wp2_with fail
  go_end0
  refine ⟨rfl, ?_⟩
  have := hK3.tail
  rw [HX.out]
  simpa only [List.append_assoc, List.nil_append] using this
theorem putPublish_neg (h : Kb w0 b l L w) (p : Pk) (A : Option Addr) (n c : Nat) (hv : valB p.topic = true) (hq : ¬ 0 < p.qos) (hi : 0 ≤ p.id ∧ p.id ≤ 65535) (hp : p.load.length ≤ 1000000000) (hl : l.length ≤ 1099511627776) :
    Calls Tryz.prog 72 #[.pointer (some ⟨b, 0, none⟩), .agg (PkC p A n c)] w fun e w' => e = .returned (.tuple #[]) ∧ Kb w0 b (l ++ pubX p) L w' := by
  have hK0 := h.new (PkC p A n c) 36 ne_pk
  have ht := val_len hv
  have HV := Lib.hid hv
  have hg : decide (0 < p.qos) = false := by simpa using hq
  have HX : Hid (pubX p = fieldL p.topic ++ ([] ++ p.load)) := by show _ = _; unfold pubX; rw [if_neg hq]
  clear hv hq h
  go_enter Tryz.func72, Tryz.ntmps72
  go_wp2_with fail
  refine (putText_any hK0 p.topic HV.out (by omega)).mono ?_
  rintro e w6 ⟨rfl, hK1⟩
  clear hK0
  have a1r := hK1.row; have a1f := hK1.free; have a1c := hK1.cell; have a1l := hK1.lt; have a1z := hK1.froz
  go_wp2_with fail
  refine (wStr hK1 p.load (by omega) (by simp only [List.length_append, fieldL_len, wordL_len]; omega)).mono ?_
  rintro e w6 ⟨rfl, hK3⟩
  clear a1r a1f a1c a1l a1z
  clear hK1
  go_wp2_with fail
  go_end0
  refine ⟨rfl, ?_⟩
  have := hK3.tail
  rw [HX.out]
  simpa only [List.append_assoc, List.nil_append] using this
theorem putPublish_any (h : Kb w0 b l L w) (p : Pk) (A : Option Addr) (n c : Nat) (hv : valB p.topic = true) (hi : 0 ≤ p.id ∧ p.id ≤ 65535) (hp : p.load.length ≤ 1000000000) (hl : l.length ≤ 1099511627776) :
    Calls Tryz.prog 72 #[.pointer (some ⟨b, 0, none⟩), .agg (PkC p A n c)] w fun e w' => e = .returned (.tuple #[]) ∧ Kb w0 b (l ++ pubX p) L w' := by
  by_cases hq : 0 < p.qos
  · exact putPublish_pos h p A n c hv hq hi hp hl
  · exact putPublish_neg h p A n c hv hq hi hp hl
set_option maxHeartbeats 2000000 in
theorem putConnect_yyy (h : Kb w0 b l L w) (p : Pk) (A : Option Addr) (n c : Nat) (hc : Con p) (hwq : 0 ≤ p.wq) (hk : 0 ≤ p.keep ∧ p.keep ≤ 65535) (hW : p.hasWill = true) (hU : p.hasUser = true) (hP : p.hasPass = true) (hl : l.length ≤ 1099511627776) :
    Calls Tryz.prog 70 #[.pointer (some ⟨b, 0, none⟩), .agg (PkC p A n c)] w fun e w' => e = .returned (.tuple #[]) ∧ Kb w0 b (l ++ conX p) L w' := by
  have hK0 := h.new (PkC p A n c) 36 ne_pk
  have HC := Lib.hid hc
  have hq2 := hc.wq hwq
  have l1 := val_len hc.client
  have hcb := cfl_bd hwq hq2
  have HWT := Lib.hid (hc.wt hW)
  have l2 := val_len (hc.wt hW)
  have l3 := hc.wl hW
  have HUS := Lib.hid (hc.user hU)
  have l4 := val_len (hc.user hU)
  have l5 := hc.pass hP
  have HX : Hid (conX p = fieldL [77, 81, 84, 84] ++ ([4] ++ ([toB (cflN p)] ++ (wordL p.keep ++ (fieldL p.client ++ ((fieldL p.wt ++ fieldL p.wl) ++ (fieldL p.user ++ fieldL p.pass))))))) := by show _ = _; unfold conX willL userL passL; rw [hW, hU, hP]; rfl
  clear hc h
  go_enter Tryz.func70, Tryz.ntmps70
  go_wp2_with fail
  refine (putText_any hK0 [77, 81, 84, 84] (by decide +kernel) (by omega)).mono ?_
  rintro e w6 ⟨rfl, hK1⟩
  clear hK0
  have a1r := hK1.row; have a1f := hK1.free; have a1c := hK1.cell; have a1l := hK1.lt; have a1z := hK1.froz
  go_wp2_with fail
  refine (wByte hK1 4 (by omega) (by omega) (by simp only [List.length_append, List.length_cons, List.length_nil, fieldL_len, wordL_len]; omega)).mono ?_
  rintro e w6 ⟨rfl, hK2⟩
  clear a1r a1f a1c a1l a1z
  clear hK1
  have a1r := hK2.row; have a1f := hK2.free; have a1c := hK2.cell; have a1l := hK2.lt; have a1z := hK2.froz
  go_wp2_with fail
  refine (cflags_any p A n c _ hwq hq2).mono ?_
  rintro e w6 ⟨rfl, hb6⟩
  clear a1r a1f a1c a1l a1z
  have hK3 := hK2.more hb6
  clear hb6 hK2
  have a1r := hK3.row; have a1f := hK3.free; have a1c := hK3.cell; have a1l := hK3.lt; have a1z := hK3.froz
  go_wp2_with fail
  refine (wByte hK3 (cflN p) hcb.1 hcb.2 (by simp only [List.length_append, List.length_cons, List.length_nil, fieldL_len, wordL_len]; omega)).mono ?_
  rintro e w6 ⟨rfl, hK4⟩
  clear a1r a1f a1c a1l a1z
  clear hK3
  have a1r := hK4.row; have a1f := hK4.free; have a1c := hK4.cell; have a1l := hK4.lt; have a1z := hK4.froz
  go_wp2_with fail
  refine (putWord_any hK4 p.keep hk.1 hk.2 (by simp only [List.length_append, List.length_cons, List.length_nil, fieldL_len, wordL_len]; omega)).mono ?_
  rintro e w6 ⟨rfl, hK5⟩
  clear a1r a1f a1c a1l a1z
  clear hK4
  have a1r := hK5.row; have a1f := hK5.free; have a1c := hK5.cell; have a1l := hK5.lt; have a1z := hK5.froz
  go_wp2_with fail
  refine (putText_any hK5 p.client HC.out.client (by simp only [List.length_append, List.length_cons, List.length_nil, fieldL_len, wordL_len]; omega)).mono ?_
  rintro e w6 ⟨rfl, hK6⟩
  clear a1r a1f a1c a1l a1z
  clear hK5
  have a1r := hK6.row; have a1f := hK6.free; have a1c := hK6.cell; have a1l := hK6.lt; have a1z := hK6.froz
  go_wp2_with fail
  refine (putText_any hK6 p.wt HWT.out (by simp only [List.length_append, List.length_cons, List.length_nil, fieldL_len, wordL_len]; omega)).mono ?_
  rintro e w6 ⟨rfl, hK7⟩
  clear a1r a1f a1c a1l a1z
  clear hK6
  have a1r := hK7.row; have a1f := hK7.free; have a1c := hK7.cell; have a1l := hK7.lt; have a1z := hK7.froz
  go_wp2_with fail
  refine (putData_any hK7 p.wl l3 (by simp only [List.length_append, List.length_cons, List.length_nil, fieldL_len, wordL_len]; omega)).mono ?_
  rintro e w6 ⟨rfl, hK8⟩
  clear a1r a1f a1c a1l a1z
  clear hK7
  have a1r := hK8.row; have a1f := hK8.free; have a1c := hK8.cell; have a1l := hK8.lt; have a1z := hK8.froz
  go_wp2_with fail
  refine (putText_any hK8 p.user HUS.out (by simp only [List.length_append, List.length_cons, List.length_nil, fieldL_len, wordL_len]; omega)).mono ?_
  rintro e w6 ⟨rfl, hK9⟩
  clear a1r a1f a1c a1l a1z
  clear hK8
  have a1r := hK9.row; have a1f := hK9.free; have a1c := hK9.cell; have a1l := hK9.lt; have a1z := hK9.froz
  go_wp2_with fail
  refine (putData_any hK9 p.pass l5 (by simp only [List.length_append, List.length_cons, List.length_nil, fieldL_len, wordL_len]; omega)).mono ?_
  rintro e w6 ⟨rfl, hK10⟩
  clear a1r a1f a1c a1l a1z
  clear hK9
  have a1r := hK10.row; have a1f := hK10.free; have a1c := hK10.cell; have a1l := hK10.lt; have a1z := hK10.froz
  go_wp2_with fail
  go_end0
  refine ⟨rfl, ?_⟩
  have := hK10.tail
  rw [HX.out]
  simp only [List.append_assoc, List.nil_append, List.append_nil] at this ⊢
  exact this
set_option maxHeartbeats 2000000 in
theorem putConnect_yyn (h : Kb w0 b l L w) (p : Pk) (A : Option Addr) (n c : Nat) (hc : Con p) (hwq : 0 ≤ p.wq) (hk : 0 ≤ p.keep ∧ p.keep ≤ 65535) (hW : p.hasWill = true) (hU : p.hasUser = true) (hP : p.hasPass = false) (hl : l.length ≤ 1099511627776) :
    Calls Tryz.prog 70 #[.pointer (some ⟨b, 0, none⟩), .agg (PkC p A n c)] w fun e w' => e = .returned (.tuple #[]) ∧ Kb w0 b (l ++ conX p) L w' := by
  have hK0 := h.new (PkC p A n c) 36 ne_pk
  have HC := Lib.hid hc
  have hq2 := hc.wq hwq
  have l1 := val_len hc.client
  have hcb := cfl_bd hwq hq2
  have HWT := Lib.hid (hc.wt hW)
  have l2 := val_len (hc.wt hW)
  have l3 := hc.wl hW
  have HUS := Lib.hid (hc.user hU)
  have l4 := val_len (hc.user hU)
  have HX : Hid (conX p = fieldL [77, 81, 84, 84] ++ ([4] ++ ([toB (cflN p)] ++ (wordL p.keep ++ (fieldL p.client ++ ((fieldL p.wt ++ fieldL p.wl) ++ (fieldL p.user ++ []))))))) := by show _ = _; unfold conX willL userL passL; rw [hW, hU, hP]; rfl
  clear hc h
  go_enter Tryz.func70, Tryz.ntmps70
  go_wp2_with fail
  refine (putText_any hK0 [77, 81, 84, 84] (by decide +kernel) (by omega)).mono ?_
  rintro e w6 ⟨rfl, hK1⟩
  clear hK0
  have a1r := hK1.row; have a1f := hK1.free; have a1c := hK1.cell; have a1l := hK1.lt; have a1z := hK1.froz
  go_wp2_with fail
  refine (wByte hK1 4 (by omega) (by omega) (by simp only [List.length_append, List.length_cons, List.length_nil, fieldL_len, wordL_len]; omega)).mono ?_
  rintro e w6 ⟨rfl, hK2⟩
  clear a1r a1f a1c a1l a1z
  clear hK1
  have a1r := hK2.row; have a1f := hK2.free; have a1c := hK2.cell; have a1l := hK2.lt; have a1z := hK2.froz
  go_wp2_with fail
  refine (cflags_any p A n c _ hwq hq2).mono ?_
  rintro e w6 ⟨rfl, hb6⟩
  clear a1r a1f a1c a1l a1z
  have hK3 := hK2.more hb6
  clear hb6 hK2
  have a1r := hK3.row; have a1f := hK3.free; have a1c := hK3.cell; have a1l := hK3.lt; have a1z := hK3.froz
  go_wp2_with fail
  refine (wByte hK3 (cflN p) hcb.1 hcb.2 (by simp only [List.length_append, List.length_cons, List.length_nil, fieldL_len, wordL_len]; omega)).mono ?_
  rintro e w6 ⟨rfl, hK4⟩
  clear a1r a1f a1c a1l a1z
  clear hK3
  have a1r := hK4.row; have a1f := hK4.free; have a1c := hK4.cell; have a1l := hK4.lt; have a1z := hK4.froz
  go_wp2_with fail
  refine (putWord_any hK4 p.keep hk.1 hk.2 (by simp only [List.length_append, List.length_cons, List.length_nil, fieldL_len, wordL_len]; omega)).mono ?_
  rintro e w6 ⟨rfl, hK5⟩
  clear a1r a1f a1c a1l a1z
  clear hK4
  have a1r := hK5.row; have a1f := hK5.free; have a1c := hK5.cell; have a1l := hK5.lt; have a1z := hK5.froz
  go_wp2_with fail
  refine (putText_any hK5 p.client HC.out.client (by simp only [List.length_append, List.length_cons, List.length_nil, fieldL_len, wordL_len]; omega)).mono ?_
  rintro e w6 ⟨rfl, hK6⟩
  clear a1r a1f a1c a1l a1z
  clear hK5
  have a1r := hK6.row; have a1f := hK6.free; have a1c := hK6.cell; have a1l := hK6.lt; have a1z := hK6.froz
  go_wp2_with fail
  refine (putText_any hK6 p.wt HWT.out (by simp only [List.length_append, List.length_cons, List.length_nil, fieldL_len, wordL_len]; omega)).mono ?_
  rintro e w6 ⟨rfl, hK7⟩
  clear a1r a1f a1c a1l a1z
  clear hK6
  have a1r := hK7.row; have a1f := hK7.free; have a1c := hK7.cell; have a1l := hK7.lt; have a1z := hK7.froz
  go_wp2_with fail
  refine (putData_any hK7 p.wl l3 (by simp only [List.length_append, List.length_cons, List.length_nil, fieldL_len, wordL_len]; omega)).mono ?_
  rintro e w6 ⟨rfl, hK8⟩
  clear a1r a1f a1c a1l a1z
  clear hK7
  have a1r := hK8.row; have a1f := hK8.free; have a1c := hK8.cell; have a1l := hK8.lt; have a1z := hK8.froz
  go_wp2_with fail
  refine (putText_any hK8 p.user HUS.out (by simp only [List.length_append, List.length_cons, List.length_nil, fieldL_len, wordL_len]; omega)).mono ?_
  rintro e w6 ⟨rfl, hK9⟩
  clear a1r a1f a1c a1l a1z
  clear hK8
  have a1r := hK9.row; have a1f := hK9.free; have a1c := hK9.cell; have a1l := hK9.lt; have a1z := hK9.froz
  go_wp2_with fail
  go_end0
  refine ⟨rfl, ?_⟩
  have := hK9.tail
  rw [HX.out]
  simp only [List.append_assoc, List.nil_append, List.append_nil] at this ⊢
  exact this
set_option maxHeartbeats 2000000 in
theorem putConnect_yny (h : Kb w0 b l L w) (p : Pk) (A : Option Addr) (n c : Nat) (hc : Con p) (hwq : 0 ≤ p.wq) (hk : 0 ≤ p.keep ∧ p.keep ≤ 65535) (hW : p.hasWill = true) (hU : p.hasUser = false) (hP : p.hasPass = true) (hl : l.length ≤ 1099511627776) :
    Calls Tryz.prog 70 #[.pointer (some ⟨b, 0, none⟩), .agg (PkC p A n c)] w fun e w' => e = .returned (.tuple #[]) ∧ Kb w0 b (l ++ conX p) L w' := by
  have hK0 := h.new (PkC p A n c) 36 ne_pk
  have HC := Lib.hid hc
  have hq2 := hc.wq hwq
  have l1 := val_len hc.client
  have hcb := cfl_bd hwq hq2
  have HWT := Lib.hid (hc.wt hW)
  have l2 := val_len (hc.wt hW)
  have l3 := hc.wl hW
  have l5 := hc.pass hP
  have HX : Hid (conX p = fieldL [77, 81, 84, 84] ++ ([4] ++ ([toB (cflN p)] ++ (wordL p.keep ++ (fieldL p.client ++ ((fieldL p.wt ++ fieldL p.wl) ++ ([] ++ fieldL p.pass))))))) := by show _ = _; unfold conX willL userL passL; rw [hW, hU, hP]; rfl
  clear hc h
  go_enter Tryz.func70, Tryz.ntmps70
  go_wp2_with fail
  refine (putText_any hK0 [77, 81, 84, 84] (by decide +kernel) (by omega)).mono ?_
  rintro e w6 ⟨rfl, hK1⟩
  clear hK0
  have a1r := hK1.row; have a1f := hK1.free; have a1c := hK1.cell; have a1l := hK1.lt; have a1z := hK1.froz
  go_wp2_with fail
  refine (wByte hK1 4 (by omega) (by omega) (by simp only [List.length_append, List.length_cons, List.length_nil, fieldL_len, wordL_len]; omega)).mono ?_
  rintro e w6 ⟨rfl, hK2⟩
  clear a1r a1f a1c a1l a1z
  clear hK1
  have a1r := hK2.row; have a1f := hK2.free; have a1c := hK2.cell; have a1l := hK2.lt; have a1z := hK2.froz
  go_wp2_with fail
  refine (cflags_any p A n c _ hwq hq2).mono ?_
  rintro e w6 ⟨rfl, hb6⟩
  clear a1r a1f a1c a1l a1z
  have hK3 := hK2.more hb6
  clear hb6 hK2
  have a1r := hK3.row; have a1f := hK3.free; have a1c := hK3.cell; have a1l := hK3.lt; have a1z := hK3.froz
  go_wp2_with fail
  refine (wByte hK3 (cflN p) hcb.1 hcb.2 (by simp only [List.length_append, List.length_cons, List.length_nil, fieldL_len, wordL_len]; omega)).mono ?_
  rintro e w6 ⟨rfl, hK4⟩
  clear a1r a1f a1c a1l a1z
  clear hK3
  have a1r := hK4.row; have a1f := hK4.free; have a1c := hK4.cell; have a1l := hK4.lt; have a1z := hK4.froz
  go_wp2_with fail
  refine (putWord_any hK4 p.keep hk.1 hk.2 (by simp only [List.length_append, List.length_cons, List.length_nil, fieldL_len, wordL_len]; omega)).mono ?_
  rintro e w6 ⟨rfl, hK5⟩
  clear a1r a1f a1c a1l a1z
  clear hK4
  have a1r := hK5.row; have a1f := hK5.free; have a1c := hK5.cell; have a1l := hK5.lt; have a1z := hK5.froz
  go_wp2_with fail
  refine (putText_any hK5 p.client HC.out.client (by simp only [List.length_append, List.length_cons, List.length_nil, fieldL_len, wordL_len]; omega)).mono ?_
  rintro e w6 ⟨rfl, hK6⟩
  clear a1r a1f a1c a1l a1z
  clear hK5
  have a1r := hK6.row; have a1f := hK6.free; have a1c := hK6.cell; have a1l := hK6.lt; have a1z := hK6.froz
  go_wp2_with fail
  refine (putText_any hK6 p.wt HWT.out (by simp only [List.length_append, List.length_cons, List.length_nil, fieldL_len, wordL_len]; omega)).mono ?_
  rintro e w6 ⟨rfl, hK7⟩
  clear a1r a1f a1c a1l a1z
  clear hK6
  have a1r := hK7.row; have a1f := hK7.free; have a1c := hK7.cell; have a1l := hK7.lt; have a1z := hK7.froz
  go_wp2_with fail
  refine (putData_any hK7 p.wl l3 (by simp only [List.length_append, List.length_cons, List.length_nil, fieldL_len, wordL_len]; omega)).mono ?_
  rintro e w6 ⟨rfl, hK8⟩
  clear a1r a1f a1c a1l a1z
  clear hK7
  have a1r := hK8.row; have a1f := hK8.free; have a1c := hK8.cell; have a1l := hK8.lt; have a1z := hK8.froz
  go_wp2_with fail
  refine (putData_any hK8 p.pass l5 (by simp only [List.length_append, List.length_cons, List.length_nil, fieldL_len, wordL_len]; omega)).mono ?_
  rintro e w6 ⟨rfl, hK9⟩
  clear a1r a1f a1c a1l a1z
  clear hK8
  have a1r := hK9.row; have a1f := hK9.free; have a1c := hK9.cell; have a1l := hK9.lt; have a1z := hK9.froz
  go_wp2_with fail
  go_end0
  refine ⟨rfl, ?_⟩
  have := hK9.tail
  rw [HX.out]
  simp only [List.append_assoc, List.nil_append, List.append_nil] at this ⊢
  exact this
set_option maxHeartbeats 2000000 in
theorem putConnect_ynn (h : Kb w0 b l L w) (p : Pk) (A : Option Addr) (n c : Nat) (hc : Con p) (hwq : 0 ≤ p.wq) (hk : 0 ≤ p.keep ∧ p.keep ≤ 65535) (hW : p.hasWill = true) (hU : p.hasUser = false) (hP : p.hasPass = false) (hl : l.length ≤ 1099511627776) :
    Calls Tryz.prog 70 #[.pointer (some ⟨b, 0, none⟩), .agg (PkC p A n c)] w fun e w' => e = .returned (.tuple #[]) ∧ Kb w0 b (l ++ conX p) L w' := by
  have hK0 := h.new (PkC p A n c) 36 ne_pk
  have HC := Lib.hid hc
  have hq2 := hc.wq hwq
  have l1 := val_len hc.client
  have hcb := cfl_bd hwq hq2
  have HWT := Lib.hid (hc.wt hW)
  have l2 := val_len (hc.wt hW)
  have l3 := hc.wl hW
  have HX : Hid (conX p = fieldL [77, 81, 84, 84] ++ ([4] ++ ([toB (cflN p)] ++ (wordL p.keep ++ (fieldL p.client ++ ((fieldL p.wt ++ fieldL p.wl) ++ ([] ++ []))))))) := by show _ = _; unfold conX willL userL passL; rw [hW, hU, hP]; rfl
  clear hc h
  go_enter Tryz.func70, Tryz.ntmps70
  go_wp2_with fail
  refine (putText_any hK0 [77, 81, 84, 84] (by decide +kernel) (by omega)).mono ?_
  rintro e w6 ⟨rfl, hK1⟩
  clear hK0
  have a1r := hK1.row; have a1f := hK1.free; have a1c := hK1.cell; have a1l := hK1.lt; have a1z := hK1.froz
  go_wp2_with fail
  refine (wByte hK1 4 (by omega) (by omega) (by simp only [List.length_append, List.length_cons, List.length_nil, fieldL_len, wordL_len]; omega)).mono ?_
  rintro e w6 ⟨rfl, hK2⟩
  clear a1r a1f a1c a1l a1z
  clear hK1
  have a1r := hK2.row; have a1f := hK2.free; have a1c := hK2.cell; have a1l := hK2.lt; have a1z := hK2.froz
  go_wp2_with fail
  refine (cflags_any p A n c _ hwq hq2).mono ?_
  rintro e w6 ⟨rfl, hb6⟩
  clear a1r a1f a1c a1l a1z
  have hK3 := hK2.more hb6
  clear hb6 hK2
  have a1r := hK3.row; have a1f := hK3.free; have a1c := hK3.cell; have a1l := hK3.lt; have a1z := hK3.froz
  go_wp2_with fail
  refine (wByte hK3 (cflN p) hcb.1 hcb.2 (by simp only [List.length_append, List.length_cons, List.length_nil, fieldL_len, wordL_len]; omega)).mono ?_
  rintro e w6 ⟨rfl, hK4⟩
  clear a1r a1f a1c a1l a1z
  clear hK3
  have a1r := hK4.row; have a1f := hK4.free; have a1c := hK4.cell; have a1l := hK4.lt; have a1z := hK4.froz
  go_wp2_with fail
  refine (putWord_any hK4 p.keep hk.1 hk.2 (by simp only [List.length_append, List.length_cons, List.length_nil, fieldL_len, wordL_len]; omega)).mono ?_
  rintro e w6 ⟨rfl, hK5⟩
  clear a1r a1f a1c a1l a1z
  clear hK4
  have a1r := hK5.row; have a1f := hK5.free; have a1c := hK5.cell; have a1l := hK5.lt; have a1z := hK5.froz
  go_wp2_with fail
  refine (putText_any hK5 p.client HC.out.client (by simp only [List.length_append, List.length_cons, List.length_nil, fieldL_len, wordL_len]; omega)).mono ?_
  rintro e w6 ⟨rfl, hK6⟩
  clear a1r a1f a1c a1l a1z
  clear hK5
  have a1r := hK6.row; have a1f := hK6.free; have a1c := hK6.cell; have a1l := hK6.lt; have a1z := hK6.froz
  go_wp2_with fail
  refine (putText_any hK6 p.wt HWT.out (by simp only [List.length_append, List.length_cons, List.length_nil, fieldL_len, wordL_len]; omega)).mono ?_
  rintro e w6 ⟨rfl, hK7⟩
  clear a1r a1f a1c a1l a1z
  clear hK6
  have a1r := hK7.row; have a1f := hK7.free; have a1c := hK7.cell; have a1l := hK7.lt; have a1z := hK7.froz
  go_wp2_with fail
  refine (putData_any hK7 p.wl l3 (by simp only [List.length_append, List.length_cons, List.length_nil, fieldL_len, wordL_len]; omega)).mono ?_
  rintro e w6 ⟨rfl, hK8⟩
  clear a1r a1f a1c a1l a1z
  clear hK7
  have a1r := hK8.row; have a1f := hK8.free; have a1c := hK8.cell; have a1l := hK8.lt; have a1z := hK8.froz
  go_wp2_with fail
  go_end0
  refine ⟨rfl, ?_⟩
  have := hK8.tail
  rw [HX.out]
  simp only [List.append_assoc, List.nil_append, List.append_nil] at this ⊢
  exact this
set_option maxHeartbeats 2000000 in
theorem putConnect_nyy (h : Kb w0 b l L w) (p : Pk) (A : Option Addr) (n c : Nat) (hc : Con p) (hwq : 0 ≤ p.wq) (hk : 0 ≤ p.keep ∧ p.keep ≤ 65535) (hW : p.hasWill = false) (hU : p.hasUser = true) (hP : p.hasPass = true) (hl : l.length ≤ 1099511627776) :
    Calls Tryz.prog 70 #[.pointer (some ⟨b, 0, none⟩), .agg (PkC p A n c)] w fun e w' => e = .returned (.tuple #[]) ∧ Kb w0 b (l ++ conX p) L w' := by
  have hK0 := h.new (PkC p A n c) 36 ne_pk
  have HC := Lib.hid hc
  have hq2 := hc.wq hwq
  have l1 := val_len hc.client
  have hcb := cfl_bd hwq hq2
  have HUS := Lib.hid (hc.user hU)
  have l4 := val_len (hc.user hU)
  have l5 := hc.pass hP
  have HX : Hid (conX p = fieldL [77, 81, 84, 84] ++ ([4] ++ ([toB (cflN p)] ++ (wordL p.keep ++ (fieldL p.client ++ ([] ++ (fieldL p.user ++ fieldL p.pass))))))) := by show _ = _; unfold conX willL userL passL; rw [hW, hU, hP]; rfl
  clear hc h
  go_enter Tryz.func70, Tryz.ntmps70
  go_wp2_with fail
  refine (putText_any hK0 [77, 81, 84, 84] (by decide +kernel) (by omega)).mono ?_
  rintro e w6 ⟨rfl, hK1⟩
  clear hK0
  have a1r := hK1.row; have a1f := hK1.free; have a1c := hK1.cell; have a1l := hK1.lt; have a1z := hK1.froz
  go_wp2_with fail
  refine (wByte hK1 4 (by omega) (by omega) (by simp only [List.length_append, List.length_cons, List.length_nil, fieldL_len, wordL_len]; omega)).mono ?_
  rintro e w6 ⟨rfl, hK2⟩
  clear a1r a1f a1c a1l a1z
  clear hK1
  have a1r := hK2.row; have a1f := hK2.free; have a1c := hK2.cell; have a1l := hK2.lt; have a1z := hK2.froz
  go_wp2_with fail
  refine (cflags_any p A n c _ hwq hq2).mono ?_
  rintro e w6 ⟨rfl, hb6⟩
  clear a1r a1f a1c a1l a1z
  have hK3 := hK2.more hb6
  clear hb6 hK2
  have a1r := hK3.row; have a1f := hK3.free; have a1c := hK3.cell; have a1l := hK3.lt; have a1z := hK3.froz
  go_wp2_with fail
  refine (wByte hK3 (cflN p) hcb.1 hcb.2 (by simp only [List.length_append, List.length_cons, List.length_nil, fieldL_len, wordL_len]; omega)).mono ?_
  rintro e w6 ⟨rfl, hK4⟩
  clear a1r a1f a1c a1l a1z
  clear hK3
  have a1r := hK4.row; have a1f := hK4.free; have a1c := hK4.cell; have a1l := hK4.lt; have a1z := hK4.froz
  go_wp2_with fail
  refine (putWord_any hK4 p.keep hk.1 hk.2 (by simp only [List.length_append, List.length_cons, List.length_nil, fieldL_len, wordL_len]; omega)).mono ?_
  rintro e w6 ⟨rfl, hK5⟩
  clear a1r a1f a1c a1l a1z
  clear hK4
  have a1r := hK5.row; have a1f := hK5.free; have a1c := hK5.cell; have a1l := hK5.lt; have a1z := hK5.froz
  go_wp2_with fail
  refine (putText_any hK5 p.client HC.out.client (by simp only [List.length_append, List.length_cons, List.length_nil, fieldL_len, wordL_len]; omega)).mono ?_
  rintro e w6 ⟨rfl, hK6⟩
  clear a1r a1f a1c a1l a1z
  clear hK5
  have a1r := hK6.row; have a1f := hK6.free; have a1c := hK6.cell; have a1l := hK6.lt; have a1z := hK6.froz
  go_wp2_with fail
  refine (putText_any hK6 p.user HUS.out (by simp only [List.length_append, List.length_cons, List.length_nil, fieldL_len, wordL_len]; omega)).mono ?_
  rintro e w6 ⟨rfl, hK7⟩
  clear a1r a1f a1c a1l a1z
  clear hK6
  have a1r := hK7.row; have a1f := hK7.free; have a1c := hK7.cell; have a1l := hK7.lt; have a1z := hK7.froz
  go_wp2_with fail
  refine (putData_any hK7 p.pass l5 (by simp only [List.length_append, List.length_cons, List.length_nil, fieldL_len, wordL_len]; omega)).mono ?_
  rintro e w6 ⟨rfl, hK8⟩
  clear a1r a1f a1c a1l a1z
  clear hK7
  have a1r := hK8.row; have a1f := hK8.free; have a1c := hK8.cell; have a1l := hK8.lt; have a1z := hK8.froz
  go_wp2_with fail
  go_end0
  refine ⟨rfl, ?_⟩
  have := hK8.tail
  rw [HX.out]
  simp only [List.append_assoc, List.nil_append, List.append_nil] at this ⊢
  exact this
set_option maxHeartbeats 2000000 in
theorem putConnect_nyn (h : Kb w0 b l L w) (p : Pk) (A : Option Addr) (n c : Nat) (hc : Con p) (hwq : 0 ≤ p.wq) (hk : 0 ≤ p.keep ∧ p.keep ≤ 65535) (hW : p.hasWill = false) (hU : p.hasUser = true) (hP : p.hasPass = false) (hl : l.length ≤ 1099511627776) :
    Calls Tryz.prog 70 #[.pointer (some ⟨b, 0, none⟩), .agg (PkC p A n c)] w fun e w' => e = .returned (.tuple #[]) ∧ Kb w0 b (l ++ conX p) L w' := by
  have hK0 := h.new (PkC p A n c) 36 ne_pk
  have HC := Lib.hid hc
  have hq2 := hc.wq hwq
  have l1 := val_len hc.client
  have hcb := cfl_bd hwq hq2
  have HUS := Lib.hid (hc.user hU)
  have l4 := val_len (hc.user hU)
  have HX : Hid (conX p = fieldL [77, 81, 84, 84] ++ ([4] ++ ([toB (cflN p)] ++ (wordL p.keep ++ (fieldL p.client ++ ([] ++ (fieldL p.user ++ []))))))) := by show _ = _; unfold conX willL userL passL; rw [hW, hU, hP]; rfl
  clear hc h
  go_enter Tryz.func70, Tryz.ntmps70
  go_wp2_with fail
  refine (putText_any hK0 [77, 81, 84, 84] (by decide +kernel) (by omega)).mono ?_
  rintro e w6 ⟨rfl, hK1⟩
  clear hK0
  have a1r := hK1.row; have a1f := hK1.free; have a1c := hK1.cell; have a1l := hK1.lt; have a1z := hK1.froz
  go_wp2_with fail
  refine (wByte hK1 4 (by omega) (by omega) (by simp only [List.length_append, List.length_cons, List.length_nil, fieldL_len, wordL_len]; omega)).mono ?_
  rintro e w6 ⟨rfl, hK2⟩
  clear a1r a1f a1c a1l a1z
  clear hK1
  have a1r := hK2.row; have a1f := hK2.free; have a1c := hK2.cell; have a1l := hK2.lt; have a1z := hK2.froz
  go_wp2_with fail
  refine (cflags_any p A n c _ hwq hq2).mono ?_
  rintro e w6 ⟨rfl, hb6⟩
  clear a1r a1f a1c a1l a1z
  have hK3 := hK2.more hb6
  clear hb6 hK2
  have a1r := hK3.row; have a1f := hK3.free; have a1c := hK3.cell; have a1l := hK3.lt; have a1z := hK3.froz
  go_wp2_with fail
  refine (wByte hK3 (cflN p) hcb.1 hcb.2 (by simp only [List.length_append, List.length_cons, List.length_nil, fieldL_len, wordL_len]; omega)).mono ?_
  rintro e w6 ⟨rfl, hK4⟩
  clear a1r a1f a1c a1l a1z
  clear hK3
  have a1r := hK4.row; have a1f := hK4.free; have a1c := hK4.cell; have a1l := hK4.lt; have a1z := hK4.froz
  go_wp2_with fail
  refine (putWord_any hK4 p.keep hk.1 hk.2 (by simp only [List.length_append, List.length_cons, List.length_nil, fieldL_len, wordL_len]; omega)).mono ?_
  rintro e w6 ⟨rfl, hK5⟩
  clear a1r a1f a1c a1l a1z
  clear hK4
  have a1r := hK5.row; have a1f := hK5.free; have a1c := hK5.cell; have a1l := hK5.lt; have a1z := hK5.froz
  go_wp2_with fail
  refine (putText_any hK5 p.client HC.out.client (by simp only [List.length_append, List.length_cons, List.length_nil, fieldL_len, wordL_len]; omega)).mono ?_
  rintro e w6 ⟨rfl, hK6⟩
  clear a1r a1f a1c a1l a1z
  clear hK5
  have a1r := hK6.row; have a1f := hK6.free; have a1c := hK6.cell; have a1l := hK6.lt; have a1z := hK6.froz
  go_wp2_with fail
  refine (putText_any hK6 p.user HUS.out (by simp only [List.length_append, List.length_cons, List.length_nil, fieldL_len, wordL_len]; omega)).mono ?_
  rintro e w6 ⟨rfl, hK7⟩
  clear a1r a1f a1c a1l a1z
  clear hK6
  have a1r := hK7.row; have a1f := hK7.free; have a1c := hK7.cell; have a1l := hK7.lt; have a1z := hK7.froz
  go_wp2_with fail
  go_end0
  refine ⟨rfl, ?_⟩
  have := hK7.tail
  rw [HX.out]
  simp only [List.append_assoc, List.nil_append, List.append_nil] at this ⊢
  exact this
set_option maxHeartbeats 2000000 in
theorem putConnect_nny (h : Kb w0 b l L w) (p : Pk) (A : Option Addr) (n c : Nat) (hc : Con p) (hwq : 0 ≤ p.wq) (hk : 0 ≤ p.keep ∧ p.keep ≤ 65535) (hW : p.hasWill = false) (hU : p.hasUser = false) (hP : p.hasPass = true) (hl : l.length ≤ 1099511627776) :
    Calls Tryz.prog 70 #[.pointer (some ⟨b, 0, none⟩), .agg (PkC p A n c)] w fun e w' => e = .returned (.tuple #[]) ∧ Kb w0 b (l ++ conX p) L w' := by
  have hK0 := h.new (PkC p A n c) 36 ne_pk
  have HC := Lib.hid hc
  have hq2 := hc.wq hwq
  have l1 := val_len hc.client
  have hcb := cfl_bd hwq hq2
  have l5 := hc.pass hP
  have HX : Hid (conX p = fieldL [77, 81, 84, 84] ++ ([4] ++ ([toB (cflN p)] ++ (wordL p.keep ++ (fieldL p.client ++ ([] ++ ([] ++ fieldL p.pass))))))) := by show _ = _; unfold conX willL userL passL; rw [hW, hU, hP]; rfl
  clear hc h
  go_enter Tryz.func70, Tryz.ntmps70
  go_wp2_with fail
  refine (putText_any hK0 [77, 81, 84, 84] (by decide +kernel) (by omega)).mono ?_
  rintro e w6 ⟨rfl, hK1⟩
  clear hK0
  have a1r := hK1.row; have a1f := hK1.free; have a1c := hK1.cell; have a1l := hK1.lt; have a1z := hK1.froz
  go_wp2_with fail
  refine (wByte hK1 4 (by omega) (by omega) (by simp only [List.length_append, List.length_cons, List.length_nil, fieldL_len, wordL_len]; omega)).mono ?_
  rintro e w6 ⟨rfl, hK2⟩
  clear a1r a1f a1c a1l a1z
  clear hK1
  have a1r := hK2.row; have a1f := hK2.free; have a1c := hK2.cell; have a1l := hK2.lt; have a1z := hK2.froz
  go_wp2_with fail
  refine (cflags_any p A n c _ hwq hq2).mono ?_
  rintro e w6 ⟨rfl, hb6⟩
  clear a1r a1f a1c a1l a1z
  have hK3 := hK2.more hb6
  clear hb6 hK2
  have a1r := hK3.row; have a1f := hK3.free; have a1c := hK3.cell; have a1l := hK3.lt; have a1z := hK3.froz
  go_wp2_with fail
  refine (wByte hK3 (cflN p) hcb.1 hcb.2 (by simp only [List.length_append, List.length_cons, List.length_nil, fieldL_len, wordL_len]; omega)).mono ?_
  rintro e w6 ⟨rfl, hK4⟩
  clear a1r a1f a1c a1l a1z
  clear hK3
  have a1r := hK4.row; have a1f := hK4.free; have a1c := hK4.cell; have a1l := hK4.lt; have a1z := hK4.froz
  go_wp2_with fail
  refine (putWord_any hK4 p.keep hk.1 hk.2 (by simp only [List.length_append, List.length_cons, List.length_nil, fieldL_len, wordL_len]; omega)).mono ?_
  rintro e w6 ⟨rfl, hK5⟩
  clear a1r a1f a1c a1l a1z
  clear hK4
  have a1r := hK5.row; have a1f := hK5.free; have a1c := hK5.cell; have a1l := hK5.lt; have a1z := hK5.froz
  go_wp2_with fail
  refine (putText_any hK5 p.client HC.out.client (by simp only [List.length_append, List.length_cons, List.length_nil, fieldL_len, wordL_len]; omega)).mono ?_
  rintro e w6 ⟨rfl, hK6⟩
  clear a1r a1f a1c a1l a1z
  clear hK5
  have a1r := hK6.row; have a1f := hK6.free; have a1c := hK6.cell; have a1l := hK6.lt; have a1z := hK6.froz
  go_wp2_with fail
  refine (putData_any hK6 p.pass l5 (by simp only [List.length_append, List.length_cons, List.length_nil, fieldL_len, wordL_len]; omega)).mono ?_
  rintro e w6 ⟨rfl, hK7⟩
  clear a1r a1f a1c a1l a1z
  clear hK6
  have a1r := hK7.row; have a1f := hK7.free; have a1c := hK7.cell; have a1l := hK7.lt; have a1z := hK7.froz
  go_wp2_with fail
  go_end0
  refine ⟨rfl, ?_⟩
  have := hK7.tail
  rw [HX.out]
  simp only [List.append_assoc, List.nil_append, List.append_nil] at this ⊢
  exact this
set_option maxHeartbeats 2000000 in
theorem putConnect_nnn (h : Kb w0 b l L w) (p : Pk) (A : Option Addr) (n c : Nat) (hc : Con p) (hwq : 0 ≤ p.wq) (hk : 0 ≤ p.keep ∧ p.keep ≤ 65535) (hW : p.hasWill = false) (hU : p.hasUser = false) (hP : p.hasPass = false) (hl : l.length ≤ 1099511627776) :
    Calls Tryz.prog 70 #[.pointer (some ⟨b, 0, none⟩), .agg (PkC p A n c)] w fun e w' => e = .returned (.tuple #[]) ∧ Kb w0 b (l ++ conX p) L w' := by
  have hK0 := h.new (PkC p A n c) 36 ne_pk
  have HC := Lib.hid hc
  have hq2 := hc.wq hwq
  have l1 := val_len hc.client
  have hcb := cfl_bd hwq hq2
  have HX : Hid (conX p = fieldL [77, 81, 84, 84] ++ ([4] ++ ([toB (cflN p)] ++ (wordL p.keep ++ (fieldL p.client ++ ([] ++ ([] ++ []))))))) := by show _ = _; unfold conX willL userL passL; rw [hW, hU, hP]; rfl
  clear hc h
  go_enter Tryz.func70, Tryz.ntmps70
  go_wp2_with fail
  refine (putText_any hK0 [77, 81, 84, 84] (by decide +kernel) (by omega)).mono ?_
  rintro e w6 ⟨rfl, hK1⟩
  clear hK0
  have a1r := hK1.row; have a1f := hK1.free; have a1c := hK1.cell; have a1l := hK1.lt; have a1z := hK1.froz
  go_wp2_with fail
  refine (wByte hK1 4 (by omega) (by omega) (by simp only [List.length_append, List.length_cons, List.length_nil, fieldL_len, wordL_len]; omega)).mono ?_
  rintro e w6 ⟨rfl, hK2⟩
  clear a1r a1f a1c a1l a1z
  clear hK1
  have a1r := hK2.row; have a1f := hK2.free; have a1c := hK2.cell; have a1l := hK2.lt; have a1z := hK2.froz
  go_wp2_with fail
  refine (cflags_any p A n c _ hwq hq2).mono ?_
  rintro e w6 ⟨rfl, hb6⟩
  clear a1r a1f a1c a1l a1z
  have hK3 := hK2.more hb6
  clear hb6 hK2
  have a1r := hK3.row; have a1f := hK3.free; have a1c := hK3.cell; have a1l := hK3.lt; have a1z := hK3.froz
  go_wp2_with fail
  refine (wByte hK3 (cflN p) hcb.1 hcb.2 (by simp only [List.length_append, List.length_cons, List.length_nil, fieldL_len, wordL_len]; omega)).mono ?_
  rintro e w6 ⟨rfl, hK4⟩
  clear a1r a1f a1c a1l a1z
  clear hK3
  have a1r := hK4.row; have a1f := hK4.free; have a1c := hK4.cell; have a1l := hK4.lt; have a1z := hK4.froz
  go_wp2_with fail
  refine (putWord_any hK4 p.keep hk.1 hk.2 (by simp only [List.length_append, List.length_cons, List.length_nil, fieldL_len, wordL_len]; omega)).mono ?_
  rintro e w6 ⟨rfl, hK5⟩
  clear a1r a1f a1c a1l a1z
  clear hK4
  have a1r := hK5.row; have a1f := hK5.free; have a1c := hK5.cell; have a1l := hK5.lt; have a1z := hK5.froz
  go_wp2_with fail
  refine (putText_any hK5 p.client HC.out.client (by simp only [List.length_append, List.length_cons, List.length_nil, fieldL_len, wordL_len]; omega)).mono ?_
  rintro e w6 ⟨rfl, hK6⟩
  clear a1r a1f a1c a1l a1z
  clear hK5
  have a1r := hK6.row; have a1f := hK6.free; have a1c := hK6.cell; have a1l := hK6.lt; have a1z := hK6.froz
  go_wp2_with fail
  go_end0
  refine ⟨rfl, ?_⟩
  have := hK6.tail
  rw [HX.out]
  simp only [List.append_assoc, List.nil_append, List.append_nil] at this ⊢
  exact this
theorem putConnect_any (h : Kb w0 b l L w) (p : Pk) (A : Option Addr) (n c : Nat) (hc : Con p) (hwq : 0 ≤ p.wq) (hk : 0 ≤ p.keep ∧ p.keep ≤ 65535) (hl : l.length ≤ 1099511627776) :
    Calls Tryz.prog 70 #[.pointer (some ⟨b, 0, none⟩), .agg (PkC p A n c)] w fun e w' => e = .returned (.tuple #[]) ∧ Kb w0 b (l ++ conX p) L w' := by
  cases hW : p.hasWill <;> cases hU : p.hasUser <;> cases hP : p.hasPass
  · exact putConnect_nnn h p A n c hc hwq hk hW hU hP hl
  · exact putConnect_nny h p A n c hc hwq hk hW hU hP hl
  · exact putConnect_nyn h p A n c hc hwq hk hW hU hP hl
  · exact putConnect_nyy h p A n c hc hwq hk hW hU hP hl
  · exact putConnect_ynn h p A n c hc hwq hk hW hU hP hl
  · exact putConnect_yny h p A n c hc hwq hk hW hU hP hl
  · exact putConnect_yyn h p A n c hc hwq hk hW hU hP hl
  · exact putConnect_yyy h p A n c hc hwq hk hW hU hP hl
theorem subX_snoc (t : Int) (xs : List (List UInt8 × Int)) (k : Nat) (x : List UInt8 × Int) (hx : xs[k]? = some x) : subX t (xs.take (k + 1)) = subX t (xs.take k) ++ (fieldL x.1 ++ (if t = 8 then [toB x.2] else [])) := by
  rw [List.take_add_one, hx, subX_app]
  simp [subX]
theorem subX_le (t : Int) (xs : List (List UInt8 × Int)) (h : ∀ x ∈ xs, valB x.1 = true) : (subX t xs).length ≤ 65538 * xs.length := by
  induction xs with
  | nil => simp [subX]
  | cons x r ih =>
    have h1 := ih (fun y hy => h y (by simp [hy]))
    have h2 := val_len (h x (by simp))
    simp only [subX, List.length_append, fieldL_len, List.length_cons]
    split <;> simp <;> omega
set_option maxHeartbeats 4000000 in
theorem putSubs_any (h : Kb w0 b l L w) (p : Pk) (A : Option Addr) (n c : Nat) (xs : List (List UInt8 × Int)) (hs : Subs w0 A n xs) (hn : n ≤ 1000000) (hi : 0 ≤ p.id ∧ p.id ≤ 65535) (hx : ∀ x ∈ xs, valB x.1 = true ∧ 0 ≤ x.2 ∧ x.2 ≤ 255) (hl : l.length ≤ 1099511627776) :
    Calls Tryz.prog 74 #[.pointer (some ⟨b, 0, none⟩), .agg (PkC p A n c)] w fun e w' => e = .returned (.tuple #[]) ∧ Kb w0 b (l ++ (wordL p.id ++ subX p.ty xs)) L w' := by
  have hK0 := h.new (PkC p A n c) 36 ne_pk
  have HS := Lib.hid hs
  have HX := Lib.hid hx
  have hlen := hs.len
  have HLE : Hid (∀ k, (subX p.ty (xs.take k)).length ≤ 65538 * xs.length) := by
    show ∀ k, _
    intro k
    have h1 := subX_le p.ty (xs.take k) (fun x hx' => (hx x (List.mem_of_mem_take hx')).1)
    have h2 : (xs.take k).length ≤ xs.length := by rw [List.length_take]; omega
    omega
  clear hs hx h
  go_enter Tryz.func74, Tryz.ntmps74
  go_wp2_with fail
  refine (putWord_any hK0 p.id hi.1 hi.2 (by omega)).mono ?_
  rintro e w6 ⟨rfl, hK1⟩
  clear hK0
  have a1r := hK1.row; have a1f := hK1.free; have a1c := hK1.cell; have a1l := hK1.lt; have a1z := hK1.froz
  go_wp2_with fail
  go_loopw [13] (fun i wr => ∃ k : Nat, i = .int .i64 k ∧ k ≤ n ∧ Kb w0 b (l ++ wordL p.id ++ subX p.ty (xs.take k)) ((w.heap.size, PkC p A n c, 36) :: L) wr) (fun i _ => n - (intOf i).toNat)
  case atStart => exact ⟨0, rfl, by omega, by simpa [subX] using hK1⟩
  case round =>
    clear a1r a1f a1c a1l a1z hK1
    obtain ⟨k, rfl, hk, hK2⟩ := hrel
    have a1r := hK2.row; have a1f := hK2.free; have a1c := hK2.cell; have a1l := hK2.lt; have a1z := hK2.froz
    have hle := HLE.out k
    by_cases hlt : k < n
    · have hlt2 : (k : Int) < (n : Int) := by omega
      obtain ⟨bx, off, x, rfl, hxk, hbx, hsz, hex⟩ := (HS.out.below hK2.below).at_ hlt
      have HSN := Lib.hid (subX_snoc p.ty xs k x hxk)
      obtain ⟨hv, q0, q1⟩ := HX.out x (List.mem_of_getElem? hxk)
      have HV := Lib.hid hv
      have hvl := val_len hv
      have hK3 := hK2.new (SbC x.1 x.2) 42 ne_sb
      clear hxk hv hK2
      by_cases h8 : p.ty = 8
      · have t8 : (p.ty == 8) = true := by simpa using h8
        have HE : Hid (subX p.ty (xs.take (k + 1)) = subX p.ty (xs.take k) ++ (fieldL x.1 ++ [toB x.2])) := by show _ = _; rw [HSN.out, if_pos h8]
        clear HSN h8
        go_wp2_with fail
        refine (putText_any hK3 x.1 HV.out (by simp only [List.length_append, List.length_cons, List.length_nil, fieldL_len, wordL_len]; omega)).mono ?_
        rintro e w6 ⟨rfl, hK4⟩
        clear a1r a1f a1c a1l a1z
        clear hK3 hsz hex hbx
        have a1r := hK4.row; have a1f := hK4.free; have a1c := hK4.cell; have a1l := hK4.lt; have a1z := hK4.froz
        have a2r := hK4.tail.row; have a2f := hK4.tail.free; have a2c := hK4.tail.cell; have a2l := hK4.tail.lt; have a2z := hK4.tail.froz
        go_wp2_with fail
        refine (wByte hK4 x.2 q0 (by omega) (by simp only [List.length_append, List.length_cons, List.length_nil, fieldL_len, wordL_len]; omega)).mono ?_
        rintro e w6 ⟨rfl, hK5⟩
        clear a1r a1f a1c a1l a1z a2r a2f a2c a2l a2z
        clear hK4
        go_wp2_with fail
        go_roundw
        case rel => exact ⟨k + 1, by go_num, by omega, by rw [HE.out]; simpa only [List.append_assoc, List.append_nil] using hK5.tail⟩
        case measure => simp [intOf]; omega
      · have t8 : (p.ty == 8) = false := by simpa using h8
        have HE : Hid (subX p.ty (xs.take (k + 1)) = subX p.ty (xs.take k) ++ (fieldL x.1 ++ [])) := by show _ = _; rw [HSN.out, if_neg h8]
        clear HSN h8
        go_wp2_with fail
        refine (putText_any hK3 x.1 HV.out (by simp only [List.length_append, List.length_cons, List.length_nil, fieldL_len, wordL_len]; omega)).mono ?_
        rintro e w6 ⟨rfl, hK4⟩
        clear a1r a1f a1c a1l a1z
        clear hK3 hsz hex hbx
        have a1r := hK4.row; have a1f := hK4.free; have a1c := hK4.cell; have a1l := hK4.lt; have a1z := hK4.froz
        have a2r := hK4.tail.row; have a2f := hK4.tail.free; have a2c := hK4.tail.cell; have a2l := hK4.tail.lt; have a2z := hK4.tail.froz
        go_wp2_with fail
        go_roundw
        case rel => exact ⟨k + 1, by go_num, by omega, by rw [HE.out]; simpa only [List.append_assoc, List.append_nil] using hK4.tail⟩
        case measure => simp [intOf]; omega
    · have hge : ¬ (k : Int) < (n : Int) := by omega
      have hke : xs.take k = xs := List.take_of_length_le (by omega)
      rw [hke] at hK2
      clear hke a1r a1f a1c a1l a1z
      go_wp2_with fail
      go_end0
      exact ⟨rfl, by simpa only [List.append_assoc] using hK2.tail⟩
theorem load_le {p : Pk} {xs : List (List UInt8 × Int)} (h : totB p xs ≤ 90000) : p.load.length ≤ 1000000 ∧ p.codes.length ≤ 1000000 := by unfold totB at h; omega
set_option maxHeartbeats 2000000 in
theorem putRest_1 (h : Kb w0 b l L w) (p : Pk) (A : Option Addr) (n c : Nat) (xs : List (List UInt8 × Int)) (hs : Subs w0 A n xs) (hf : Fit p xs) (ho : Ok p xs) (e : p.ty = 1) (hl : l.length ≤ 549755813888) :
    Calls Tryz.prog 40 #[.pointer (some ⟨b, 0, none⟩), .agg (PkC p A n c)] w fun e w' => e = .returned (.tuple #[]) ∧ Kb w0 b (l ++ bodyL p xs) L w' := by
  have HX : Hid (bodyL p xs = conX p) := by show _ = _; unfold bodyL; rw [e]; simp
  have hK0 := h.new (PkC p A n c) 36 ne_pk
  have hid := hf.id
  have hld := load_le hf.tot
  have t1 : (p.ty == 1) = true := by rw [e]; rfl
  have t2 : (p.ty == 2) = false := by rw [e]; rfl
  have t3 : (p.ty == 3) = false := by rw [e]; rfl
  have t4 : (p.ty == 4) = false := by rw [e]; rfl
  have t5 : (p.ty == 5) = false := by rw [e]; rfl
  have t6 : (p.ty == 6) = false := by rw [e]; rfl
  have t7 : (p.ty == 7) = false := by rw [e]; rfl
  have t8 : (p.ty == 8) = false := by rw [e]; rfl
  have t9 : (p.ty == 9) = false := by rw [e]; rfl
  have t10 : (p.ty == 10) = false := by rw [e]; rfl
  have t11 : (p.ty == 11) = false := by rw [e]; rfl
  have HC := Lib.hid (con_of (ho.con e))
  have hwq := hf.wq.1
  have hkp := hf.keep
  clear e hs hf ho h
  go_enter Tryz.func40, Tryz.ntmps40
  go_wp2_with fail
  refine (putConnect_any hK0 p A n c HC.out hwq hkp (by omega)).mono ?_
  rintro e w6 ⟨rfl, hK1⟩
  go_wp2_with fail
  go_end0
  exact ⟨rfl, by rw [HX.out]; simpa only [List.append_assoc, List.append_nil, List.cons_append, List.nil_append] using hK1.tail⟩
set_option maxHeartbeats 2000000 in
theorem putRest_2 (h : Kb w0 b l L w) (p : Pk) (A : Option Addr) (n c : Nat) (xs : List (List UInt8 × Int)) (hs : Subs w0 A n xs) (hf : Fit p xs) (ho : Ok p xs) (e : p.ty = 2) (hl : l.length ≤ 549755813888) :
    Calls Tryz.prog 40 #[.pointer (some ⟨b, 0, none⟩), .agg (PkC p A n c)] w fun e w' => e = .returned (.tuple #[]) ∧ Kb w0 b (l ++ bodyL p xs) L w' := by
  have HX : Hid (bodyL p xs = [toB (yesI p.present 1), toB p.code]) := by show _ = _; unfold bodyL; rw [e]; simp
  have hK0 := h.new (PkC p A n c) 36 ne_pk
  have hid := hf.id
  have hld := load_le hf.tot
  have t1 : (p.ty == 1) = false := by rw [e]; rfl
  have t2 : (p.ty == 2) = true := by rw [e]; rfl
  have t3 : (p.ty == 3) = false := by rw [e]; rfl
  have t4 : (p.ty == 4) = false := by rw [e]; rfl
  have t5 : (p.ty == 5) = false := by rw [e]; rfl
  have t6 : (p.ty == 6) = false := by rw [e]; rfl
  have t7 : (p.ty == 7) = false := by rw [e]; rfl
  have t8 : (p.ty == 8) = false := by rw [e]; rfl
  have t9 : (p.ty == 9) = false := by rw [e]; rfl
  have t10 : (p.ty == 10) = false := by rw [e]; rfl
  have t11 : (p.ty == 11) = false := by rw [e]; rfl
  have hcd := hf.code
  have hpr := yes_bd p.present 1 (by omega)
  clear e hs hf ho h
  go_enter Tryz.func40, Tryz.ntmps40
  go_wp2_with fail
  refine (flag_any p.present 1 _).mono ?_
  rintro e w6 ⟨rfl, rfl⟩
  go_wp2_with fail
  refine (wByte hK0 (yesI p.present 1) hpr.1 (by omega) (by omega)).mono ?_
  rintro e w6 ⟨rfl, hK1⟩
  clear hK0
  have a1r := hK1.row; have a1f := hK1.free; have a1c := hK1.cell; have a1l := hK1.lt; have a1z := hK1.froz
  go_wp2_with fail
  refine (wByte hK1 p.code hcd.1 (by omega) (by simp only [List.length_append, List.length_cons, List.length_nil, fieldL_len, wordL_len]; omega)).mono ?_
  rintro e w6 ⟨rfl, hK2⟩
  clear a1r a1f a1c a1l a1z
  go_wp2_with fail
  go_end0
  exact ⟨rfl, by rw [HX.out]; simpa only [List.append_assoc, List.append_nil, List.cons_append, List.nil_append] using hK2.tail⟩
set_option maxHeartbeats 2000000 in
theorem putRest_3 (h : Kb w0 b l L w) (p : Pk) (A : Option Addr) (n c : Nat) (xs : List (List UInt8 × Int)) (hs : Subs w0 A n xs) (hf : Fit p xs) (ho : Ok p xs) (e : p.ty = 3) (hl : l.length ≤ 549755813888) :
    Calls Tryz.prog 40 #[.pointer (some ⟨b, 0, none⟩), .agg (PkC p A n c)] w fun e w' => e = .returned (.tuple #[]) ∧ Kb w0 b (l ++ bodyL p xs) L w' := by
  have HX : Hid (bodyL p xs = pubX p) := by show _ = _; unfold bodyL; rw [e]; simp
  have hK0 := h.new (PkC p A n c) 36 ne_pk
  have hid := hf.id
  have hld := load_le hf.tot
  have t1 : (p.ty == 1) = false := by rw [e]; rfl
  have t2 : (p.ty == 2) = false := by rw [e]; rfl
  have t3 : (p.ty == 3) = true := by rw [e]; rfl
  have t4 : (p.ty == 4) = false := by rw [e]; rfl
  have t5 : (p.ty == 5) = false := by rw [e]; rfl
  have t6 : (p.ty == 6) = false := by rw [e]; rfl
  have t7 : (p.ty == 7) = false := by rw [e]; rfl
  have t8 : (p.ty == 8) = false := by rw [e]; rfl
  have t9 : (p.ty == 9) = false := by rw [e]; rfl
  have t10 : (p.ty == 10) = false := by rw [e]; rfl
  have t11 : (p.ty == 11) = false := by rw [e]; rfl
  have HV := Lib.hid (nm_val (pub_qos ho e).2)
  clear e hs hf ho h
  go_enter Tryz.func40, Tryz.ntmps40
  go_wp2_with fail
  refine (putPublish_any hK0 p A n c HV.out hid (by omega) (by omega)).mono ?_
  rintro e w6 ⟨rfl, hK1⟩
  go_wp2_with fail
  go_end0
  exact ⟨rfl, by rw [HX.out]; simpa only [List.append_assoc, List.append_nil, List.cons_append, List.nil_append] using hK1.tail⟩
set_option maxHeartbeats 2000000 in
theorem putRest_4 (h : Kb w0 b l L w) (p : Pk) (A : Option Addr) (n c : Nat) (xs : List (List UInt8 × Int)) (hs : Subs w0 A n xs) (hf : Fit p xs) (ho : Ok p xs) (e : p.ty = 4) (hl : l.length ≤ 549755813888) :
    Calls Tryz.prog 40 #[.pointer (some ⟨b, 0, none⟩), .agg (PkC p A n c)] w fun e w' => e = .returned (.tuple #[]) ∧ Kb w0 b (l ++ bodyL p xs) L w' := by
  have HX : Hid (bodyL p xs = wordL p.id) := by show _ = _; unfold bodyL; rw [e]; simp
  have hK0 := h.new (PkC p A n c) 36 ne_pk
  have hid := hf.id
  have hld := load_le hf.tot
  have t1 : (p.ty == 1) = false := by rw [e]; rfl
  have t2 : (p.ty == 2) = false := by rw [e]; rfl
  have t3 : (p.ty == 3) = false := by rw [e]; rfl
  have t4 : (p.ty == 4) = true := by rw [e]; rfl
  have t5 : (p.ty == 5) = false := by rw [e]; rfl
  have t6 : (p.ty == 6) = false := by rw [e]; rfl
  have t7 : (p.ty == 7) = false := by rw [e]; rfl
  have t8 : (p.ty == 8) = false := by rw [e]; rfl
  have t9 : (p.ty == 9) = false := by rw [e]; rfl
  have t10 : (p.ty == 10) = false := by rw [e]; rfl
  have t11 : (p.ty == 11) = false := by rw [e]; rfl
  clear e hs hf ho h
  go_enter Tryz.func40, Tryz.ntmps40
  go_wp2_with fail
  refine (putWord_any hK0 p.id hid.1 hid.2 (by omega)).mono ?_
  rintro e w6 ⟨rfl, hK1⟩
  go_wp2_with fail
  go_end0
  exact ⟨rfl, by rw [HX.out]; simpa only [List.append_assoc, List.append_nil, List.cons_append, List.nil_append] using hK1.tail⟩
set_option maxHeartbeats 2000000 in
theorem putRest_5 (h : Kb w0 b l L w) (p : Pk) (A : Option Addr) (n c : Nat) (xs : List (List UInt8 × Int)) (hs : Subs w0 A n xs) (hf : Fit p xs) (ho : Ok p xs) (e : p.ty = 5) (hl : l.length ≤ 549755813888) :
    Calls Tryz.prog 40 #[.pointer (some ⟨b, 0, none⟩), .agg (PkC p A n c)] w fun e w' => e = .returned (.tuple #[]) ∧ Kb w0 b (l ++ bodyL p xs) L w' := by
  have HX : Hid (bodyL p xs = wordL p.id) := by show _ = _; unfold bodyL; rw [e]; simp
  have hK0 := h.new (PkC p A n c) 36 ne_pk
  have hid := hf.id
  have hld := load_le hf.tot
  have t1 : (p.ty == 1) = false := by rw [e]; rfl
  have t2 : (p.ty == 2) = false := by rw [e]; rfl
  have t3 : (p.ty == 3) = false := by rw [e]; rfl
  have t4 : (p.ty == 4) = false := by rw [e]; rfl
  have t5 : (p.ty == 5) = true := by rw [e]; rfl
  have t6 : (p.ty == 6) = false := by rw [e]; rfl
  have t7 : (p.ty == 7) = false := by rw [e]; rfl
  have t8 : (p.ty == 8) = false := by rw [e]; rfl
  have t9 : (p.ty == 9) = false := by rw [e]; rfl
  have t10 : (p.ty == 10) = false := by rw [e]; rfl
  have t11 : (p.ty == 11) = false := by rw [e]; rfl
  clear e hs hf ho h
  go_enter Tryz.func40, Tryz.ntmps40
  go_wp2_with fail
  refine (putWord_any hK0 p.id hid.1 hid.2 (by omega)).mono ?_
  rintro e w6 ⟨rfl, hK1⟩
  go_wp2_with fail
  go_end0
  exact ⟨rfl, by rw [HX.out]; simpa only [List.append_assoc, List.append_nil, List.cons_append, List.nil_append] using hK1.tail⟩
set_option maxHeartbeats 2000000 in
theorem putRest_6 (h : Kb w0 b l L w) (p : Pk) (A : Option Addr) (n c : Nat) (xs : List (List UInt8 × Int)) (hs : Subs w0 A n xs) (hf : Fit p xs) (ho : Ok p xs) (e : p.ty = 6) (hl : l.length ≤ 549755813888) :
    Calls Tryz.prog 40 #[.pointer (some ⟨b, 0, none⟩), .agg (PkC p A n c)] w fun e w' => e = .returned (.tuple #[]) ∧ Kb w0 b (l ++ bodyL p xs) L w' := by
  have HX : Hid (bodyL p xs = wordL p.id) := by show _ = _; unfold bodyL; rw [e]; simp
  have hK0 := h.new (PkC p A n c) 36 ne_pk
  have hid := hf.id
  have hld := load_le hf.tot
  have t1 : (p.ty == 1) = false := by rw [e]; rfl
  have t2 : (p.ty == 2) = false := by rw [e]; rfl
  have t3 : (p.ty == 3) = false := by rw [e]; rfl
  have t4 : (p.ty == 4) = false := by rw [e]; rfl
  have t5 : (p.ty == 5) = false := by rw [e]; rfl
  have t6 : (p.ty == 6) = true := by rw [e]; rfl
  have t7 : (p.ty == 7) = false := by rw [e]; rfl
  have t8 : (p.ty == 8) = false := by rw [e]; rfl
  have t9 : (p.ty == 9) = false := by rw [e]; rfl
  have t10 : (p.ty == 10) = false := by rw [e]; rfl
  have t11 : (p.ty == 11) = false := by rw [e]; rfl
  clear e hs hf ho h
  go_enter Tryz.func40, Tryz.ntmps40
  go_wp2_with fail
  refine (putWord_any hK0 p.id hid.1 hid.2 (by omega)).mono ?_
  rintro e w6 ⟨rfl, hK1⟩
  go_wp2_with fail
  go_end0
  exact ⟨rfl, by rw [HX.out]; simpa only [List.append_assoc, List.append_nil, List.cons_append, List.nil_append] using hK1.tail⟩
set_option maxHeartbeats 2000000 in
theorem putRest_7 (h : Kb w0 b l L w) (p : Pk) (A : Option Addr) (n c : Nat) (xs : List (List UInt8 × Int)) (hs : Subs w0 A n xs) (hf : Fit p xs) (ho : Ok p xs) (e : p.ty = 7) (hl : l.length ≤ 549755813888) :
    Calls Tryz.prog 40 #[.pointer (some ⟨b, 0, none⟩), .agg (PkC p A n c)] w fun e w' => e = .returned (.tuple #[]) ∧ Kb w0 b (l ++ bodyL p xs) L w' := by
  have HX : Hid (bodyL p xs = wordL p.id) := by show _ = _; unfold bodyL; rw [e]; simp
  have hK0 := h.new (PkC p A n c) 36 ne_pk
  have hid := hf.id
  have hld := load_le hf.tot
  have t1 : (p.ty == 1) = false := by rw [e]; rfl
  have t2 : (p.ty == 2) = false := by rw [e]; rfl
  have t3 : (p.ty == 3) = false := by rw [e]; rfl
  have t4 : (p.ty == 4) = false := by rw [e]; rfl
  have t5 : (p.ty == 5) = false := by rw [e]; rfl
  have t6 : (p.ty == 6) = false := by rw [e]; rfl
  have t7 : (p.ty == 7) = true := by rw [e]; rfl
  have t8 : (p.ty == 8) = false := by rw [e]; rfl
  have t9 : (p.ty == 9) = false := by rw [e]; rfl
  have t10 : (p.ty == 10) = false := by rw [e]; rfl
  have t11 : (p.ty == 11) = false := by rw [e]; rfl
  clear e hs hf ho h
  go_enter Tryz.func40, Tryz.ntmps40
  go_wp2_with fail
  refine (putWord_any hK0 p.id hid.1 hid.2 (by omega)).mono ?_
  rintro e w6 ⟨rfl, hK1⟩
  go_wp2_with fail
  go_end0
  exact ⟨rfl, by rw [HX.out]; simpa only [List.append_assoc, List.append_nil, List.cons_append, List.nil_append] using hK1.tail⟩
set_option maxHeartbeats 2000000 in
theorem putRest_8 (h : Kb w0 b l L w) (p : Pk) (A : Option Addr) (n c : Nat) (xs : List (List UInt8 × Int)) (hs : Subs w0 A n xs) (hf : Fit p xs) (ho : Ok p xs) (e : p.ty = 8) (hl : l.length ≤ 549755813888) :
    Calls Tryz.prog 40 #[.pointer (some ⟨b, 0, none⟩), .agg (PkC p A n c)] w fun e w' => e = .returned (.tuple #[]) ∧ Kb w0 b (l ++ bodyL p xs) L w' := by
  have HX : Hid (bodyL p xs = wordL p.id ++ subX p.ty xs) := by show _ = _; unfold bodyL; rw [e]; simp
  have hK0 := h.new (PkC p A n c) 36 ne_pk
  have hid := hf.id
  have hld := load_le hf.tot
  have t1 : (p.ty == 1) = false := by rw [e]; rfl
  have t2 : (p.ty == 2) = false := by rw [e]; rfl
  have t3 : (p.ty == 3) = false := by rw [e]; rfl
  have t4 : (p.ty == 4) = false := by rw [e]; rfl
  have t5 : (p.ty == 5) = false := by rw [e]; rfl
  have t6 : (p.ty == 6) = false := by rw [e]; rfl
  have t7 : (p.ty == 7) = false := by rw [e]; rfl
  have t8 : (p.ty == 8) = true := by rw [e]; rfl
  have t9 : (p.ty == 9) = false := by rw [e]; rfl
  have t10 : (p.ty == 10) = false := by rw [e]; rfl
  have t11 : (p.ty == 11) = false := by rw [e]; rfl
  have HXS : Hid (∀ x ∈ xs, valB x.1 = true ∧ 0 ≤ x.2 ∧ x.2 ≤ 255) := fun x hx => ⟨(sbR_mem (ho.sub e) x hx).1, hf.sub x hx⟩
  have HS := Lib.hid hs
  have hnm : n ≤ 1000000 := by have := hf.num; have := hs.len; omega
  clear e hs hf ho h
  go_enter Tryz.func40, Tryz.ntmps40
  go_wp2_with fail
  refine (putSubs_any hK0 p A n c xs HS.out hnm hid HXS.out (by omega)).mono ?_
  rintro e w6 ⟨rfl, hK1⟩
  go_wp2_with fail
  go_end0
  exact ⟨rfl, by rw [HX.out]; simpa only [List.append_assoc, List.append_nil, List.cons_append, List.nil_append] using hK1.tail⟩
set_option maxHeartbeats 2000000 in
theorem putRest_9 (h : Kb w0 b l L w) (p : Pk) (A : Option Addr) (n c : Nat) (xs : List (List UInt8 × Int)) (hs : Subs w0 A n xs) (hf : Fit p xs) (ho : Ok p xs) (e : p.ty = 9) (hl : l.length ≤ 549755813888) :
    Calls Tryz.prog 40 #[.pointer (some ⟨b, 0, none⟩), .agg (PkC p A n c)] w fun e w' => e = .returned (.tuple #[]) ∧ Kb w0 b (l ++ bodyL p xs) L w' := by
  have HX : Hid (bodyL p xs = wordL p.id ++ p.codes) := by show _ = _; unfold bodyL; rw [e]; simp
  have hK0 := h.new (PkC p A n c) 36 ne_pk
  have hid := hf.id
  have hld := load_le hf.tot
  have t1 : (p.ty == 1) = false := by rw [e]; rfl
  have t2 : (p.ty == 2) = false := by rw [e]; rfl
  have t3 : (p.ty == 3) = false := by rw [e]; rfl
  have t4 : (p.ty == 4) = false := by rw [e]; rfl
  have t5 : (p.ty == 5) = false := by rw [e]; rfl
  have t6 : (p.ty == 6) = false := by rw [e]; rfl
  have t7 : (p.ty == 7) = false := by rw [e]; rfl
  have t8 : (p.ty == 8) = false := by rw [e]; rfl
  have t9 : (p.ty == 9) = true := by rw [e]; rfl
  have t10 : (p.ty == 10) = false := by rw [e]; rfl
  have t11 : (p.ty == 11) = false := by rw [e]; rfl
  clear e hs hf ho h
  go_enter Tryz.func40, Tryz.ntmps40
  go_wp2_with fail
  refine (putWord_any hK0 p.id hid.1 hid.2 (by omega)).mono ?_
  rintro e w6 ⟨rfl, hK1⟩
  clear hK0
  have a1r := hK1.row; have a1f := hK1.free; have a1c := hK1.cell; have a1l := hK1.lt; have a1z := hK1.froz
  go_wp2_with fail
  refine (wStr hK1 p.codes (by omega) (by simp only [List.length_append, List.length_cons, List.length_nil, fieldL_len, wordL_len]; omega)).mono ?_
  rintro e w6 ⟨rfl, hK2⟩
  clear a1r a1f a1c a1l a1z
  go_wp2_with fail
  go_end0
  exact ⟨rfl, by rw [HX.out]; simpa only [List.append_assoc, List.append_nil, List.cons_append, List.nil_append] using hK2.tail⟩
set_option maxHeartbeats 2000000 in
theorem putRest_10 (h : Kb w0 b l L w) (p : Pk) (A : Option Addr) (n c : Nat) (xs : List (List UInt8 × Int)) (hs : Subs w0 A n xs) (hf : Fit p xs) (ho : Ok p xs) (e : p.ty = 10) (hl : l.length ≤ 549755813888) :
    Calls Tryz.prog 40 #[.pointer (some ⟨b, 0, none⟩), .agg (PkC p A n c)] w fun e w' => e = .returned (.tuple #[]) ∧ Kb w0 b (l ++ bodyL p xs) L w' := by
  have HX : Hid (bodyL p xs = wordL p.id ++ subX p.ty xs) := by show _ = _; unfold bodyL; rw [e]; simp
  have hK0 := h.new (PkC p A n c) 36 ne_pk
  have hid := hf.id
  have hld := load_le hf.tot
  have t1 : (p.ty == 1) = false := by rw [e]; rfl
  have t2 : (p.ty == 2) = false := by rw [e]; rfl
  have t3 : (p.ty == 3) = false := by rw [e]; rfl
  have t4 : (p.ty == 4) = false := by rw [e]; rfl
  have t5 : (p.ty == 5) = false := by rw [e]; rfl
  have t6 : (p.ty == 6) = false := by rw [e]; rfl
  have t7 : (p.ty == 7) = false := by rw [e]; rfl
  have t8 : (p.ty == 8) = false := by rw [e]; rfl
  have t9 : (p.ty == 9) = false := by rw [e]; rfl
  have t10 : (p.ty == 10) = true := by rw [e]; rfl
  have t11 : (p.ty == 11) = false := by rw [e]; rfl
  have HXS : Hid (∀ x ∈ xs, valB x.1 = true ∧ 0 ≤ x.2 ∧ x.2 ≤ 255) := fun x hx => ⟨(sbR_mem (ho.uns e) x hx).1, hf.sub x hx⟩
  have HS := Lib.hid hs
  have hnm : n ≤ 1000000 := by have := hf.num; have := hs.len; omega
  clear e hs hf ho h
  go_enter Tryz.func40, Tryz.ntmps40
  go_wp2_with fail
  refine (putSubs_any hK0 p A n c xs HS.out hnm hid HXS.out (by omega)).mono ?_
  rintro e w6 ⟨rfl, hK1⟩
  go_wp2_with fail
  go_end0
  exact ⟨rfl, by rw [HX.out]; simpa only [List.append_assoc, List.append_nil, List.cons_append, List.nil_append] using hK1.tail⟩
set_option maxHeartbeats 2000000 in
theorem putRest_11 (h : Kb w0 b l L w) (p : Pk) (A : Option Addr) (n c : Nat) (xs : List (List UInt8 × Int)) (hs : Subs w0 A n xs) (hf : Fit p xs) (ho : Ok p xs) (e : p.ty = 11) (hl : l.length ≤ 549755813888) :
    Calls Tryz.prog 40 #[.pointer (some ⟨b, 0, none⟩), .agg (PkC p A n c)] w fun e w' => e = .returned (.tuple #[]) ∧ Kb w0 b (l ++ bodyL p xs) L w' := by
  have HX : Hid (bodyL p xs = wordL p.id) := by show _ = _; unfold bodyL; rw [e]; simp
  have hK0 := h.new (PkC p A n c) 36 ne_pk
  have hid := hf.id
  have hld := load_le hf.tot
  have t1 : (p.ty == 1) = false := by rw [e]; rfl
  have t2 : (p.ty == 2) = false := by rw [e]; rfl
  have t3 : (p.ty == 3) = false := by rw [e]; rfl
  have t4 : (p.ty == 4) = false := by rw [e]; rfl
  have t5 : (p.ty == 5) = false := by rw [e]; rfl
  have t6 : (p.ty == 6) = false := by rw [e]; rfl
  have t7 : (p.ty == 7) = false := by rw [e]; rfl
  have t8 : (p.ty == 8) = false := by rw [e]; rfl
  have t9 : (p.ty == 9) = false := by rw [e]; rfl
  have t10 : (p.ty == 10) = false := by rw [e]; rfl
  have t11 : (p.ty == 11) = true := by rw [e]; rfl
  clear e hs hf ho h
  go_enter Tryz.func40, Tryz.ntmps40
  go_wp2_with fail
  refine (putWord_any hK0 p.id hid.1 hid.2 (by omega)).mono ?_
  rintro e w6 ⟨rfl, hK1⟩
  go_wp2_with fail
  go_end0
  exact ⟨rfl, by rw [HX.out]; simpa only [List.append_assoc, List.append_nil, List.cons_append, List.nil_append] using hK1.tail⟩
set_option maxHeartbeats 2000000 in
theorem putRest_12 (h : Kb w0 b l L w) (p : Pk) (A : Option Addr) (n c : Nat) (xs : List (List UInt8 × Int)) (hs : Subs w0 A n xs) (hf : Fit p xs) (ho : Ok p xs) (e : p.ty = 12) (hl : l.length ≤ 549755813888) :
    Calls Tryz.prog 40 #[.pointer (some ⟨b, 0, none⟩), .agg (PkC p A n c)] w fun e w' => e = .returned (.tuple #[]) ∧ Kb w0 b (l ++ bodyL p xs) L w' := by
  have HX : Hid (bodyL p xs = []) := by show _ = _; unfold bodyL; rw [e]; simp
  have hK0 := h.new (PkC p A n c) 36 ne_pk
  have hid := hf.id
  have hld := load_le hf.tot
  have t1 : (p.ty == 1) = false := by rw [e]; rfl
  have t2 : (p.ty == 2) = false := by rw [e]; rfl
  have t3 : (p.ty == 3) = false := by rw [e]; rfl
  have t4 : (p.ty == 4) = false := by rw [e]; rfl
  have t5 : (p.ty == 5) = false := by rw [e]; rfl
  have t6 : (p.ty == 6) = false := by rw [e]; rfl
  have t7 : (p.ty == 7) = false := by rw [e]; rfl
  have t8 : (p.ty == 8) = false := by rw [e]; rfl
  have t9 : (p.ty == 9) = false := by rw [e]; rfl
  have t10 : (p.ty == 10) = false := by rw [e]; rfl
  have t11 : (p.ty == 11) = false := by rw [e]; rfl
  clear e hs hf ho h
  go_enter Tryz.func40, Tryz.ntmps40
  go_wp2_with fail
  go_end0
  exact ⟨rfl, by rw [HX.out]; simpa only [List.append_assoc, List.append_nil, List.cons_append, List.nil_append] using hK0.tail⟩
set_option maxHeartbeats 2000000 in
theorem putRest_13 (h : Kb w0 b l L w) (p : Pk) (A : Option Addr) (n c : Nat) (xs : List (List UInt8 × Int)) (hs : Subs w0 A n xs) (hf : Fit p xs) (ho : Ok p xs) (e : p.ty = 13) (hl : l.length ≤ 549755813888) :
    Calls Tryz.prog 40 #[.pointer (some ⟨b, 0, none⟩), .agg (PkC p A n c)] w fun e w' => e = .returned (.tuple #[]) ∧ Kb w0 b (l ++ bodyL p xs) L w' := by
  have HX : Hid (bodyL p xs = []) := by show _ = _; unfold bodyL; rw [e]; simp
  have hK0 := h.new (PkC p A n c) 36 ne_pk
  have hid := hf.id
  have hld := load_le hf.tot
  have t1 : (p.ty == 1) = false := by rw [e]; rfl
  have t2 : (p.ty == 2) = false := by rw [e]; rfl
  have t3 : (p.ty == 3) = false := by rw [e]; rfl
  have t4 : (p.ty == 4) = false := by rw [e]; rfl
  have t5 : (p.ty == 5) = false := by rw [e]; rfl
  have t6 : (p.ty == 6) = false := by rw [e]; rfl
  have t7 : (p.ty == 7) = false := by rw [e]; rfl
  have t8 : (p.ty == 8) = false := by rw [e]; rfl
  have t9 : (p.ty == 9) = false := by rw [e]; rfl
  have t10 : (p.ty == 10) = false := by rw [e]; rfl
  have t11 : (p.ty == 11) = false := by rw [e]; rfl
  clear e hs hf ho h
  go_enter Tryz.func40, Tryz.ntmps40
  go_wp2_with fail
  go_end0
  exact ⟨rfl, by rw [HX.out]; simpa only [List.append_assoc, List.append_nil, List.cons_append, List.nil_append] using hK0.tail⟩
set_option maxHeartbeats 2000000 in
theorem putRest_14 (h : Kb w0 b l L w) (p : Pk) (A : Option Addr) (n c : Nat) (xs : List (List UInt8 × Int)) (hs : Subs w0 A n xs) (hf : Fit p xs) (ho : Ok p xs) (e : p.ty = 14) (hl : l.length ≤ 549755813888) :
    Calls Tryz.prog 40 #[.pointer (some ⟨b, 0, none⟩), .agg (PkC p A n c)] w fun e w' => e = .returned (.tuple #[]) ∧ Kb w0 b (l ++ bodyL p xs) L w' := by
  have HX : Hid (bodyL p xs = []) := by show _ = _; unfold bodyL; rw [e]; simp
  have hK0 := h.new (PkC p A n c) 36 ne_pk
  have hid := hf.id
  have hld := load_le hf.tot
  have t1 : (p.ty == 1) = false := by rw [e]; rfl
  have t2 : (p.ty == 2) = false := by rw [e]; rfl
  have t3 : (p.ty == 3) = false := by rw [e]; rfl
  have t4 : (p.ty == 4) = false := by rw [e]; rfl
  have t5 : (p.ty == 5) = false := by rw [e]; rfl
  have t6 : (p.ty == 6) = false := by rw [e]; rfl
  have t7 : (p.ty == 7) = false := by rw [e]; rfl
  have t8 : (p.ty == 8) = false := by rw [e]; rfl
  have t9 : (p.ty == 9) = false := by rw [e]; rfl
  have t10 : (p.ty == 10) = false := by rw [e]; rfl
  have t11 : (p.ty == 11) = false := by rw [e]; rfl
  clear e hs hf ho h
  go_enter Tryz.func40, Tryz.ntmps40
  go_wp2_with fail
  go_end0
  exact ⟨rfl, by rw [HX.out]; simpa only [List.append_assoc, List.append_nil, List.cons_append, List.nil_append] using hK0.tail⟩
theorem putRest_any (h : Kb w0 b l L w) (p : Pk) (A : Option Addr) (n c : Nat) (xs : List (List UInt8 × Int)) (hs : Subs w0 A n xs) (hf : Fit p xs) (ho : Ok p xs) (hl : l.length ≤ 549755813888) :
    Calls Tryz.prog 40 #[.pointer (some ⟨b, 0, none⟩), .agg (PkC p A n c)] w fun e w' => e = .returned (.tuple #[]) ∧ Kb w0 b (l ++ bodyL p xs) L w' := by
  rcases ho.ty with e | e | e | e | e | e | e | e | e | e | e | e | e | e
  · exact putRest_1 h p A n c xs hs hf ho e hl
  · exact putRest_2 h p A n c xs hs hf ho e hl
  · exact putRest_3 h p A n c xs hs hf ho e hl
  · exact putRest_4 h p A n c xs hs hf ho e hl
  · exact putRest_5 h p A n c xs hs hf ho e hl
  · exact putRest_6 h p A n c xs hs hf ho e hl
  · exact putRest_7 h p A n c xs hs hf ho e hl
  · exact putRest_8 h p A n c xs hs hf ho e hl
  · exact putRest_9 h p A n c xs hs hf ho e hl
  · exact putRest_10 h p A n c xs hs hf ho e hl
  · exact putRest_11 h p A n c xs hs hf ho e hl
  · exact putRest_12 h p A n c xs hs hf ho e hl
  · exact putRest_13 h p A n c xs hs hf ho e hl
  · exact putRest_14 h p A n c xs hs hf ho e hl
end
end Go.Proofs.YtncgkkhpcgdcaaaGreatDoor
