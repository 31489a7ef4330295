/-
  IdsKnown: the chapter's examples; all ids, and each one freed about each place; no pool. The card, without a bound: for every input.
-/
import Derived.Test.YtckgglgecpmikaaDoorIdHelp
import Derived.Test.YtckgglgecpmikaaDoorIdFrame
import Derived.Test.YtckgglgecpmikaaDoorTie
import Derived.Test.YtckgglgecpmikaaDoorCards
import Derived.SevenTiedAt
import Derived.ProofKit
set_option linter.unusedSimpArgs false
set_option linter.unusedVariables false
namespace Go.Proofs.YtckgglgecpmikaaDoor
open Go.RowKit Go.ChangeShapes Go.WideShapes Go.ChangeAt
namespace lawIdsKnown
theorem cellAt {w : World} {b o n k : Nat} {xs : List Value} {x : Value} (h : Vals w (some ⟨b, o, none⟩) n xs) (hx : xs[k]? = some x) : w.cell? ⟨b, o + k, none⟩ = some x := by
  have hk : k < n := by have := (List.getElem?_eq_some_iff.1 hx).1; have := h.len; omega
  obtain ⟨b1, o1, y, e, hy, hc⟩ := h.at_ hk
  cases e
  rw [hx] at hy
  cases hy
  exact hc
/-- The pool, and a slice that stands beside it. -/
structure PP (B : Nat) (w0 w : World) (t : Nat) (F : Nat → Prop) (L : List Nat) (A : Option Addr) (n : Nat) (xs : List Value) : Prop where
  pi : PI w t F L
  below : Below B w0 w
  own : ∀ b, F b → B ≤ b
  size : B ≤ w.heap.size
  vals : Vals w A n xs
  off : ∀ b o, 0 < n → A = some ⟨b, o, none⟩ → ¬ F b
section
variable {B t n : Nat} {w0 w w' : World} {F : Nat → Prop} {L M : List Nat} {A : Option Addr} {xs : List Value} {e : Ending}
theorem PP.fr {r : Bool} (h : PP B w0 w t F L A n xs) (k : FrP w t F M r e w') : ∃ F', e = .returned (.bool r) ∧ PP B w0 w' t F' M A n xs := by
  obtain ⟨F', he, hP, hU, hV⟩ := k
  refine ⟨F', he, hP, h.below.trans (hU.below (B := B) (fun b _ hf => h.own b hf) h.size), fun b hb => ?_, Nat.le_trans h.size hU.size, h.vals.outs hU h.off, fun b o hn e2 hf => ?_⟩
  · rcases hV b hb with h2 | h2
    · exact h.own b h2
    · have := h.size; omega
  · rcases hV b hf with h2 | h2
    · exact h.off b o hn e2 h2
    · have := h.vals.lt hn e2; omega
theorem PP.bl (h : PP B w0 w t F L A n xs) (hb : Below w.heap.size w w') : PP B w0 w' t F L A n xs :=
  ⟨h.pi.below hb, h.below.trans (hb.mono h.size), h.own, Nat.le_trans h.size hb.size, h.vals.below hb, h.off⟩
end
def tenL : List Nat := [65535, 1, 63, 64, 65, 127, 128, 40000, 65472, 2]
theorem ten_in : ∀ z ∈ tenL, 1 ≤ z ∧ z ≤ 65535 := by decide
theorem ten_map : tenL.map u16V = [.int .u16 65535, .int .u16 1, .int .u16 63, .int .u16 64, .int .u16 65, .int .u16 127, .int .u16 128, .int .u16 40000, .int .u16 65472, .int .u16 2] := rfl
/-- A pool with all ids but one. -/
theorem but_lst (L : List Nat) (hm : ∀ i, i ∈ L ↔ 1 ≤ i ∧ i ≤ 65535) (z : Nat) (h1 : 1 ≤ z) (h2 : z ≤ 65535) : Lst (delN z L) z :=
  ⟨h1, fun h => ((del_mem z z L).1 h).2 rfl, fun i hi hl => (del_mem z i L).2 ⟨(hm i).2 ⟨hi, by omega⟩, by omega⟩⟩
/-- Three that are freed, taken again in another row. -/
theorem three (L0 : List Nat) (hs : Srt ltN L0) (hm : ∀ i, i ∈ L0 ↔ 1 ≤ i ∧ i ≤ 65535) (hl : L0.length = 65535) : ∃ D1 D2 D3 T1 T2 T3 : List Nat, delN 700 L0 = D1 ∧ delN 64 D1 = D2 ∧ delN 65535 D2 = D3 ∧ insO ltN 64 D3 = T1 ∧ insO ltN 700 T1 = T2 ∧ insO ltN 65535 T2 = T3 ∧
    700 ∈ L0 ∧ 64 ∈ D1 ∧ 65535 ∈ D2 ∧ D3.length = 65532 ∧ Lst D3 64 ∧ T1.length = 65533 ∧ Lst T1 700 ∧ T2.length = 65534 ∧ Lst T2 65535 ∧ 0 ∉ T3 := by
  obtain ⟨D1, h1⟩ : ∃ D1, delN 700 L0 = D1 := ⟨_, rfl⟩
  obtain ⟨D2, h2⟩ : ∃ D2, delN 64 D1 = D2 := ⟨_, rfl⟩
  obtain ⟨D3, h3⟩ : ∃ D3, delN 65535 D2 = D3 := ⟨_, rfl⟩
  obtain ⟨T1, h4⟩ : ∃ T1, insO ltN 64 D3 = T1 := ⟨_, rfl⟩
  obtain ⟨T2, h5⟩ : ∃ T2, insO ltN 700 T1 = T2 := ⟨_, rfl⟩
  obtain ⟨T3, h6⟩ : ∃ T3, insO ltN 65535 T2 = T3 := ⟨_, rfl⟩
  have m1 : ∀ i, i ∈ D1 ↔ (1 ≤ i ∧ i ≤ 65535) ∧ i ≠ 700 := fun i => by rw [← h1, del_mem, hm]
  have m2 : ∀ i, i ∈ D2 ↔ ((1 ≤ i ∧ i ≤ 65535) ∧ i ≠ 700) ∧ i ≠ 64 := fun i => by rw [← h2, del_mem, m1]
  have m3 : ∀ i, i ∈ D3 ↔ (((1 ≤ i ∧ i ≤ 65535) ∧ i ≠ 700) ∧ i ≠ 64) ∧ i ≠ 65535 := fun i => by rw [← h3, del_mem, m2]
  have m4 : ∀ i, i ∈ T1 ↔ i = 64 ∨ (((1 ≤ i ∧ i ≤ 65535) ∧ i ≠ 700) ∧ i ≠ 64) ∧ i ≠ 65535 := fun i => by rw [← h4, ins_mem, m3]
  have m5 : ∀ i, i ∈ T2 ↔ i = 700 ∨ i = 64 ∨ (((1 ≤ i ∧ i ≤ 65535) ∧ i ≠ 700) ∧ i ≠ 64) ∧ i ≠ 65535 := fun i => by rw [← h5, ins_mem, m4]
  have m6 : ∀ i, i ∈ T3 ↔ i = 65535 ∨ i = 700 ∨ i = 64 ∨ (((1 ≤ i ∧ i ≤ 65535) ∧ i ≠ 700) ∧ i ≠ 64) ∧ i ≠ 65535 := fun i => by rw [← h6, ins_mem, m5]
  have s1 : Srt ltN D1 := by rw [← h1]; exact srt_filter _ L0 hs
  have s2 : Srt ltN D2 := by rw [← h2]; exact srt_filter _ D1 s1
  have e1 : 700 ∈ L0 := (hm _).2 (by omega)
  have e2 : 64 ∈ D1 := (m1 _).2 (by omega)
  have e3 : 65535 ∈ D2 := (m2 _).2 (by omega)
  have l1 := del_len hs e1
  rw [h1] at l1
  have l2 := del_len s1 e2
  rw [h2] at l2
  have l3 := del_len s2 e3
  rw [h3] at l3
  have l4 := ins_len' 64 D3
  rw [h4] at l4
  have l5 := ins_len' 700 T1
  rw [h5] at l5
  exact ⟨D1, D2, D3, T1, T2, T3, h1, h2, h3, h4, h5, h6, e1, e2, e3, by omega,
    ⟨by omega, fun h => by have := (m3 _).1 h; omega, fun i _ _ => (m3 i).2 (by omega)⟩, by omega,
    ⟨by omega, fun h => by have := (m4 _).1 h; omega, fun i _ _ => (m4 i).2 (by omega)⟩, by omega,
    ⟨by omega, fun h => by have := (m5 _).1 h; omega, fun i _ _ => (m5 i).2 (by omega)⟩, fun h => by have := (m6 _).1 h; omega⟩
set_option maxRecDepth 100000 in
set_option maxHeartbeats 8000000 in
theorem walk (w : World) (hG : GloT w) :
    Calls Tryd.prog 3 #[] w fun e w' => e = .returned (.bool true) ∧ Below w.heap.size w w' := by
  have HG := Lib.hid hG
  clear hG
  go_enter Tryd.func3, Tryd.ntmps3
  go_wp2_with fail
  refine (iNew _).mono ?_
  rintro e w1 ⟨t, F, rfl, hT, hb1, hF⟩
  have hP0 : PP w.heap.size w w1 t F (fullL 0) none 0 [] := ⟨hT, hb1, hF, hb1.size, Vals.nil none, fun _ _ h => by omega⟩
  clear hT hb1 hF
  go_wp2_with fail
  go_loopw [2] (fun i wr => ∃ (j : Nat) (F : Nat → Prop), i = .int .i64 j ∧ 1 ≤ j ∧ j ≤ 65536 ∧ PP w.heap.size w wr t F (fullL (j - 1)) none 0 []) (fun i _ => 65536 - (intOf i).toNat)
  case atStart => exact ⟨1, F, rfl, by omega, by omega, hP0⟩
  case round =>
    clear hP0
    obtain ⟨j, F, rfl, hj1, hj2, hP⟩ := hrel
    by_cases hlt : j ≤ 65535
    · have hG1 := HG.out.below hP.below
      have HP := Lib.hid hP
      have hl : (fullL (j - 1)).length < 65535 := by rw [full_len]; omega
      have hins : insO ltN j (fullL (j - 1)) = fullL (j + 1 - 1) := by
        have := full_ins (j - 1)
        rw [show j - 1 + 1 = j by omega] at this
        exact this
      have hlst : Lst (fullL (j - 1)) j := by
        have := full_lst (j - 1)
        rwa [show j - 1 + 1 = j by omega] at this
      have HINS := Lib.hid hins
      have HLST := Lib.hid hlst
      clear hP hins hlst
      go_wp2_with fail
      refine (takes_any HP.out.pi hG1 j _ hl HLST.out HINS.out).mono ?_
      rintro e w2 hK
      obtain ⟨F2, rfl, hP2⟩ := HP.out.fr hK
      clear hK
      go_wp2_with fail
      go_roundw
      case rel => exact ⟨j + 1, F2, by go_num, by omega, by omega, hP2⟩
      case measure => simp [intOf]; omega
    · obtain rfl : j = 65536 := by omega
      obtain ⟨L0, hL0⟩ : ∃ L0, L0 = fullL (65536 - 1) := ⟨_, rfl⟩
      rw [← hL0] at hP
      have HL := Lib.hid (show L0.length = 65535 by rw [hL0, full_len])
      have HM : Hid (∀ i, i ∈ L0 ↔ 1 ≤ i ∧ i ≤ 65535) := fun i => by rw [hL0, full_mem]
      have HS := Lib.hid (show Srt ltN L0 by rw [hL0]; exact full_srt _)
      have HP := Lib.hid hP
      clear hL0 hP
      have hne : (((L0.length : Nat) : Int) != 65535) = false := by rw [HL.out]; rfl
      go_wp2_with fail
      refine (iTakeFull HP.out.pi HL.out).mono ?_
      rintro e w2 ⟨rfl, rfl⟩
      go_wp2_with fail
      refine (iLen HP.out.pi).mono ?_
      rintro e w2 ⟨rfl, rfl⟩
      obtain ⟨W, hW⟩ : ∃ W, W = wr.alloc (.cells #[.int .u16 65535, .int .u16 1, .int .u16 63, .int .u16 64, .int .u16 65, .int .u16 127, .int .u16 128, .int .u16 40000, .int .u16 65472, .int .u16 2] 25) := ⟨_, rfl⟩
      have hbW : Below wr.heap.size wr W := by rw [hW]; exact below_alloc (Below.refl _ _) _
      have hVW : Vals W (some ⟨wr.heap.size, 0, none⟩) 10 (tenL.map u16V) := by rw [hW, ten_map]; exact vals_new wr _ _ _ 10 rfl
      obtain ⟨g, hg⟩ : ∃ g, g = wr.heap.size := ⟨_, rfl⟩
      have hPW : PP w.heap.size w W t F L0 (some ⟨g, 0, none⟩) 10 (tenL.map u16V) := by
        have h1 := HP.out.bl hbW
        refine ⟨h1.pi, h1.below, h1.own, h1.size, by rw [hg]; exact hVW, fun b o _ e hf => ?_⟩
        cases e
        have := HP.out.pi.lt _ hf
        omega
      have HPW := Lib.hid hPW
      clear hbW hVW hPW
      go_wp2_with fail
      rw [← hW, ← hg]
      clear hW hg
      clear HP hne
      go_loopw [6] (fun i wr => ∃ (k : Nat) (F : Nat → Prop), i = .int .i64 k ∧ k ≤ 10 ∧ PP w.heap.size w wr t F L0 (some ⟨g, 0, none⟩) 10 (tenL.map u16V)) (fun i _ => 10 - (intOf i).toNat)
      case atStart => exact ⟨0, F, rfl, by omega, HPW.out⟩
      case round =>
        clear HPW
        obtain ⟨k, F, rfl, hk, hP⟩ := hrel
        by_cases hlt : k < 10
        · obtain ⟨z, hz⟩ : ∃ z, tenL[k]? = some z := ⟨tenL[k]'(by simpa [tenL] using hlt), List.getElem?_eq_getElem _⟩
          obtain ⟨hz1, hz2⟩ := ten_in z (List.mem_of_getElem? hz)
          have hzm : (tenL.map u16V)[k]? = some (.int .u16 (z : Nat)) := by rw [List.getElem?_map, hz]; rfl
          have HZM := Lib.hid hzm
          have hzL := (HM.out z).2 ⟨hz1, hz2⟩
          have hdl := del_len HS.out hzL
          have HLL := Lib.hid (show (delN z L0).length < 65535 by have := HL.out; omega)
          have HLST := Lib.hid (but_lst L0 HM.out z hz1 hz2)
          have HINS := Lib.hid (ins_del HS.out hzL)
          have HD := Lib.hid (decide_eq_true hzL)
          have HN := Lib.hid (decide_eq_false HLST.out.no)
          have hkI : (k : Int) < 10 := by omega
          have hk0 : (0 : Int) ≤ (k : Int) := by omega
          have HP := Lib.hid hP
          have q1 := cellAt hP.vals HZM.out
          rw [Nat.zero_add] at q1
          clear hz hzm hzL hdl hP
          go_wp2_with fail
          refine (iFree_any HP.out.pi z true hz2 HD.out).mono ?_
          rintro e w3 hK
          obtain ⟨F3, rfl, hP3⟩ := HP.out.fr hK
          have q3 := cellAt hP3.vals HZM.out
          rw [Nat.zero_add] at q3
          have HP3 := Lib.hid hP3
          clear hK hP3
          go_wp2_with fail
          refine (iFree0 HP3.out.pi z hz2 HN.out).mono ?_
          rintro e w4 ⟨rfl, hb4⟩
          have hP4 := HP3.out.bl hb4
          have q4 := cellAt hP4.vals HZM.out
          rw [Nat.zero_add] at q4
          have HP4 := Lib.hid hP4
          clear hb4 hP4 q3 q1
          go_wp2_with fail
          refine (iHas HP4.out.pi z false hz2 HN.out).mono ?_
          rintro e w5 ⟨rfl, hb5⟩
          have hP5 := HP4.out.bl hb5
          have q5 := cellAt hP5.vals HZM.out
          rw [Nat.zero_add] at q5
          have HP5 := Lib.hid hP5
          clear hb5 hP5 q4
          go_wp2_with fail
          refine (takes_any HP5.out.pi (HG.out.below HP5.out.below) z _ HLL.out HLST.out HINS.out).mono ?_
          rintro e w6 hK
          obtain ⟨F6, rfl, hP6⟩ := HP5.out.fr hK
          have q6 := cellAt hP6.vals HZM.out
          rw [Nat.zero_add] at q6
          have HP6 := Lib.hid hP6
          clear hK hP6 q5
          go_wp2_with fail
          refine (iHas HP6.out.pi z true hz2 HD.out).mono ?_
          rintro e w7 ⟨rfl, hb7⟩
          have HP7 := Lib.hid (HP6.out.bl hb7)
          clear hb7 q6
          go_wp2_with fail
          go_roundw
          case rel => exact ⟨k + 1, F6, by go_num, by omega, HP7.out⟩
          case measure => simp [intOf]; omega
        · obtain rfl : k = 10 := by omega
          obtain ⟨D1, D2, D3, T1, T2, T3, h1, h2, h3, h4, h5, h6, e1, e2, e3, l3, p3, l4, p4, l5, p5, hz⟩ := three L0 HS.out HM.out HL.out
          have H1 := Lib.hid h1
          have H2 := Lib.hid h2
          have H3 := Lib.hid h3
          have H4 := Lib.hid h4
          have H5 := Lib.hid h5
          have H6 := Lib.hid h6
          have E1 := Lib.hid (decide_eq_true e1)
          have E2 := Lib.hid (decide_eq_true e2)
          have E3 := Lib.hid (decide_eq_true e3)
          have EZ := Lib.hid (decide_eq_false hz)
          have P3 := Lib.hid p3
          have P4 := Lib.hid p4
          have P5 := Lib.hid p5
          have L3 := Lib.hid l3
          have L4 := Lib.hid l4
          have L5 := Lib.hid l5
          have HP : Hid (PP w.heap.size w wr t F L0 none 0 []) := ⟨hP.pi, hP.below, hP.own, hP.size, Vals.nil none, fun _ _ h => by omega⟩
          clear h1 h2 h3 h4 h5 h6 e1 e2 e3 p3 p4 p5 l3 l4 l5 hz hP
          go_wp2_with fail
          refine (iFree_any HP.out.pi 700 true (by omega) E1.out).mono ?_
          rw [H1.out]
          rintro e w3 hK
          obtain ⟨F3, rfl, hP3⟩ := HP.out.fr hK
          have HP3 := Lib.hid hP3
          clear hK hP3
          go_wp2_with fail
          refine (iFree_any HP3.out.pi 64 true (by omega) E2.out).mono ?_
          rw [H2.out]
          rintro e w4 hK
          obtain ⟨F4, rfl, hP4⟩ := HP3.out.fr hK
          have HP4 := Lib.hid hP4
          clear hK hP4
          go_wp2_with fail
          refine (iFree_any HP4.out.pi 65535 true (by omega) E3.out).mono ?_
          rw [H3.out]
          rintro e w5 hK
          obtain ⟨F5, rfl, hP5⟩ := HP4.out.fr hK
          have HP5 := Lib.hid hP5
          have hne : (((D3.length : Nat) : Int) != 65532) = false := by rw [L3.out]; rfl
          clear hK hP5
          go_wp2_with fail
          refine (iLen HP5.out.pi).mono ?_
          rintro e w6 ⟨rfl, rfl⟩
          go_wp2_with fail
          refine (takes_any HP5.out.pi (HG.out.below HP5.out.below) 64 _ (by have := L3.out; omega) P3.out H4.out).mono ?_
          rintro e w6 hK
          obtain ⟨F6, rfl, hP6⟩ := HP5.out.fr hK
          have HP6 := Lib.hid hP6
          clear hK hP6 hne
          go_wp2_with fail
          refine (takes_any HP6.out.pi (HG.out.below HP6.out.below) 700 _ (by have := L4.out; omega) P4.out H5.out).mono ?_
          rintro e w7 hK
          obtain ⟨F7, rfl, hP7⟩ := HP6.out.fr hK
          have HP7 := Lib.hid hP7
          clear hK hP7
          go_wp2_with fail
          refine (takes_any HP7.out.pi (HG.out.below HP7.out.below) 65535 _ (by have := L5.out; omega) P5.out H6.out).mono ?_
          rintro e w8 hK
          obtain ⟨F8, rfl, hP8⟩ := HP7.out.fr hK
          have HP8 := Lib.hid hP8
          clear hK hP8
          obtain ⟨W, hW⟩ : ∃ W, W = (w8.alloc (.cells #[.bool false, .slice none 0 0, .int .i64 0] 34)).alloc (.cells #[.pointer none, .pointer (some ⟨w8.heap.size, 0, none⟩)] 22) := ⟨_, rfl⟩
          have hbW : Below w8.heap.size w8 W := by rw [hW]; exact below_alloc (below_alloc (Below.refl _ _) _) _
          have hVW : Vals W (some ⟨w8.heap.size + 1, 0, none⟩) 2 [.pointer none, .pointer (some ⟨w8.heap.size, 0, none⟩)] := by
            have h := vals_new (w8.alloc (.cells #[.bool false, .slice none 0 0, .int .i64 0] 34)) #[.pointer none, .pointer (some ⟨w8.heap.size, 0, none⟩)] 22 (0, 0) 2 rfl
            rw [World.size_alloc] at h
            rw [hW]; exact h
          have hZW : ZI W (some ⟨w8.heap.size, 0, none⟩) := Or.inr ⟨w8.heap.size, rfl, by rw [hW]; exact (Below.heap_alloc _ _ _ (by simp)).trans (heap_alloc_new w8 _)⟩
          have HVW := Lib.hid hVW
          have HZW := Lib.hid hZW
          have HP9 := Lib.hid (HP8.out.bl hbW)
          clear hbW hVW hZW
          go_wp2_with fail
          rw [← hW]
          clear hW
          go_loopw [9] (fun i wr => ∃ k : Nat, i = .int .i64 k ∧ k ≤ 2 ∧ Below W.heap.size W wr) (fun i _ => 2 - (intOf i).toNat)
          case atStart => exact ⟨0, rfl, by omega, Below.refl _ _⟩
          case round =>
            obtain ⟨k, rfl, hk, hb⟩ := hrel
            by_cases hlt : k < 2
            · obtain ⟨p, hp, hZ⟩ : ∃ p : Option Addr, [Value.pointer none, .pointer (some ⟨w8.heap.size, 0, none⟩)][k]? = some (.pointer p) ∧ ZI W p := by
                match k, hlt with
                | 0, _ => exact ⟨none, rfl, Or.inl rfl⟩
                | 1, _ => exact ⟨_, rfl, HZW.out⟩
              have HPP := Lib.hid hp
              have HZ := Lib.hid hZ
              have hkI : (k : Int) < 2 := by omega
              have hk0 : (0 : Int) ≤ (k : Int) := by omega
              have q1 := cellAt (HVW.out.below hb) HPP.out
              rw [Nat.zero_add] at q1
              clear hp hZ
              go_wp2_with fail
              refine (zTake (HZ.out.below hb)).mono ?_
              rintro e w10 ⟨rfl, rfl⟩
              go_wp2_with fail
              refine (all_any (fun W' hW' => zAll ((HZ.out.below hb).below hW')) ((HG.out.below HP9.out.below).below hb)).mono ?_
              rintro e w11 ⟨A2, c2, rfl, _, _, hb11⟩
              replace hb := below_more hb hb11
              have q2 := cellAt (HVW.out.below hb) HPP.out
              rw [Nat.zero_add] at q2
              clear hb11 q1
              go_wp2_with fail
              refine (zFree (HZ.out.below hb) 1 (by omega)).mono ?_
              rintro e w12 ⟨rfl, hb12⟩
              replace hb := below_more hb hb12
              have q3 := cellAt (HVW.out.below hb) HPP.out
              rw [Nat.zero_add] at q3
              clear hb12 q2
              go_wp2_with fail
              refine (zHas (HZ.out.below hb) 0 (by omega)).mono ?_
              rintro e w13 ⟨rfl, hb13⟩
              replace hb := below_more hb hb13
              have q4 := cellAt (HVW.out.below hb) HPP.out
              rw [Nat.zero_add] at q4
              clear hb13 q3
              go_wp2_with fail
              refine (zHas (HZ.out.below hb) 1 (by omega)).mono ?_
              rintro e w14 ⟨rfl, hb14⟩
              replace hb := below_more hb hb14
              have q5 := cellAt (HVW.out.below hb) HPP.out
              rw [Nat.zero_add] at q5
              clear hb14 q4
              go_wp2_with fail
              refine (zLen (HZ.out.below hb)).mono ?_
              rintro e w15 ⟨rfl, rfl⟩
              go_wp2_with fail
              go_roundw
              case rel => exact ⟨k + 1, by go_num, by omega, hb⟩
              case measure => simp [intOf]; omega
            · obtain rfl : k = 2 := by omega
              have HP10 := Lib.hid (HP9.out.bl hb)
              go_wp2_with fail
              refine (iHas HP10.out.pi 0 false (by omega) EZ.out).mono ?_
              rintro e w16 ⟨rfl, hb16⟩
              have HP11 := Lib.hid (HP10.out.bl hb16)
              clear hb16
              go_wp2_with fail
              refine (iFree0 HP11.out.pi 0 (by omega) EZ.out).mono ?_
              rintro e w17 ⟨rfl, hb17⟩
              have HP12 := Lib.hid (HP11.out.bl hb17)
              clear hb17
              go_wp2_with fail
              refine (awake_any _ (HG.out.below HP12.out.below)).mono ?_
              rintro e w18 ⟨rfl, hb18⟩
              have hbl := below_more HP12.out.below hb18
              go_wp2_with fail
              go_ret
              exact ⟨rfl, hbl⟩
set_option maxRecDepth 100000 in
theorem lifted (os : Os) (started : os.Started) (H : Type) (enc : TypeId × Value → H) :
    ReturnsInHanded {} Tryd.checked os 3 .any (fun w args => (Rows.idsKnownSpec.pre enc Tryd.prog Tryd.f3 [] false w args ∧ laidMetH Tryd.prog laidL w) ∧ sizedMet enc Tryd.prog Tryd.f3 (OpenSpec.ofChange Rows.idsKnownSpec) false w args)
      (Rows.idsKnownSpec.post enc Tryd.prog Tryd.f3 false true false false) := by
  refine handed_laidT (C := Tryd.checked) (X := fun w _ => laidMetH Tryd.prog laidL w) own_none started (by kernel_rfl) Tryd.func3 (laidT_witness os Rows.idsKnownSpec #[] (by kernel_rfl) (by kernel_rfl) (by kernel_rfl)) ?_
  intro W base args ds gs before hval0 hW hlm
  have hval : ∀ (j : Nat) t v, Tryd.f3.params[j]? = some t → args[j]? = some v → Value.okWide Tryd.prog W .any base t v := hval0
  have hWk := hW
  obtain ⟨p, q, hA0, hV, hbef, _, _⟩ := hWk
  have hA : DataW.TrodAll enc Tryd.prog W 0 (fun _ => true) true Tryd.f3.params.toList args.toList ds p := hA0
  obtain ⟨rfl, rfl⟩ := trodVars_none hV
  rw [Tryd.params3] at hA hval
  obtain ⟨hargs, rfl, hpn⟩ := trodAll_nil hA
  obtain rfl : args = #[] := by cases args; simp_all
  refine (walk W (glot_of hlm) ).mono fun e W' ⟨he, hg⟩ => ?_
  subst he
  exact ⟨_, rfl, law_post laid_out (by kernel_rfl) rfl (by kernel_rfl) Tryd.underlying4 hW rfl hg⟩

theorem over : Rows.idsKnownRow.holds Tryd.pinned (OpenSpec.ofChange Rows.idsKnownSpec) :=
  OpenClaim.holds_of_wide 3 Tryd.f3 rfl rfl rfl rfl rfl rfl rfl ⟨rfl, rfl, rfl, rfl, rfl⟩ rfl rfl rfl rfl rfl (by kernel_rfl) Tryd.func3 (by kernel_rfl)
    (of_decide_eq_true (by kernel_rfl)) (by unfold Func.isWrapper; first | (rw [if_pos (by decide +kernel)]; kernel_rfl) | (rw [if_neg (by decide +kernel)]; exact ⟨rfl, rfl⟩))
    (fun os started H enc _ => lifted os started H enc)

/-- THE STATEMENT: the card. -/
theorem proved : Rows.IdsKnownCardSaid :=
  Claim7.holds_tied_plain_at .later [] [.data] true Rows.idsKnownCard.stood.harness false over (fun _ h => by cases h) (by kernel_rfl) (fun _ h => by cases h) idsKnown_row_tie rfl ⟨rfl, rfl⟩ (by kernel_rfl) rfl
    (fun f fn hf hfn => by
      obtain rfl : f = 3 := Option.some.inj ((show Tryd.prog.funcNamed Rows.idsKnownRow.func = some 3 by kernel_rfl).symm.trans hf) |>.symm
      obtain rfl : fn = Tryd.f3 := (Option.some.inj (Tryd.func3.symm.trans hfn)).symm
      exact ⟨by kernel_rfl, fun j t ht => by
        have hm : t ∈ Tryd.f3.params.toList := by simpa using Array.mem_of_getElem? ht
        have hall : (Tryd.f3.params.toList.all fun u => !Tryd.prog.wantsStandIn u) = true := by kernel_rfl
        exact (show Tryd.prog.wantsStandIn t = false by simpa using List.all_eq_true.1 hall t hm)⟩)
    (by kernel_rfl)
end lawIdsKnown
end Go.Proofs.YtckgglgecpmikaaDoor
