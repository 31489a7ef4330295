/-
  TrieTurn: Added, and removed, a trie is as it was; what was there and is removed can be added again. The card, without a bound: for every input.
-/
import Derived.Test.YtipdmfnkkkdlbaaGreatDoorTrOrdM
import Derived.Test.YtipdmfnkkkdlbaaGreatDoorTrTells
import Derived.Test.YtipdmfnkkkdlbaaGreatDoorWrFrame
import Derived.Test.YtipdmfnkkkdlbaaGreatDoorTie
import Derived.Test.YtipdmfnkkkdlbaaGreatDoorCards
import Derived.SevenTiedAt
import Derived.ProofKit
set_option linter.unusedSimpArgs false
set_option linter.unusedVariables false
namespace Go.Proofs.YtipdmfnkkkdlbaaGreatDoor
open Go.RowKit
theorem of_has (L : List Hn) (h : Hn) (b : Bool) (hb : L.contains h = b) : (ofL L h.2).contains h.1 = b := by
  rw [← hb, Bool.eq_iff_iff, List.contains_iff_mem, List.contains_iff_mem]
  unfold ofL
  simp only [List.mem_map, List.mem_filter, beq_iff_eq]
  constructor
  · rintro ⟨x, ⟨hx, e2⟩, e1⟩
    have : x = h := Prod.ext e1 e2
    rwa [← this]
  · intro hm; exact ⟨h, ⟨hm, rfl⟩, rfl⟩
theorem add_yes (L : List Hn) (h : Hn) (hb : addB L h = true) : filB h.1 = true ∧ h ∉ L := by
  unfold addB at hb; simpa using hb
theorem turn_in (L : List Hn) (h : Hn) (hs : Srt ahB L) (hb : addB L h = true) : (addL L h).contains h = true ∧ (addL L h).length = L.length + 1 ∧ remB (addL L h) h = true ∧ remL (addL L h) h = L := by
  have ⟨_, hn⟩ := add_yes L h hb
  have e : addL L h = insO ahB h L := by unfold addL; rw [if_pos hb]
  have hm : (insO ahB h L).contains h = true := by rw [List.contains_iff_mem, ins_mem]; exact .inl rfl
  rw [e]
  refine ⟨hm, ins_len h L, by rw [rem_mem]; exact hm, ?_⟩
  refine srt_ext ah_ord _ _ (rem_srt _ h (ins_srt ah_ord h L hs hn)) hs (fun x => ?_)
  unfold remL
  rw [List.mem_filter, ins_mem]
  constructor
  · rintro ⟨rfl | hx, hne⟩
    · simp at hne
    · exact hx
  · intro hx
    refine ⟨.inr hx, ?_⟩
    simp only [bne_iff_ne, ne_eq]
    rintro rfl; exact hn hx
theorem add_no (L : List Hn) (h : Hn) (hb : addB L h = false) : addL L h = L := by unfold addL; rw [hb]; rfl
theorem turn_out (L : List Hn) (h : Hn) (hs : Srt ahB L) (hb : addB L h = false) (hf : filB h.1 = true) : remB L h = true ∧ (remL L h).contains h = false ∧ addB (remL L h) h = true ∧ addL (remL L h) h = L := by
  have hm : L.contains h = true := by unfold addB at hb; rw [hf] at hb; simpa using hb
  have hno : (remL L h).contains h = false := by
    rw [Bool.eq_false_iff]; intro he
    rw [List.contains_iff_mem] at he
    unfold remL at he
    rw [List.mem_filter] at he
    simp at he
  have ha : addB (remL L h) h = true := by unfold addB; rw [hf, hno]; rfl
  refine ⟨by rw [rem_mem]; exact hm, hno, ha, ?_⟩
  unfold addL
  rw [if_pos ha]
  have hm2 := List.contains_iff_mem.1 hm
  refine srt_ext ah_ord _ _ (ins_srt ah_ord h _ (rem_srt L h hs) (fun hx => by rw [← List.contains_iff_mem, hno] at hx; cases hx)) hs (fun x => ?_)
  rw [ins_mem]
  unfold remL
  rw [List.mem_filter]
  constructor
  · rintro (rfl | ⟨hx, _⟩)
    · exact hm2
    · exact hx
  · intro hx
    by_cases e : x = h
    · exact .inl e
    · exact .inr ⟨hx, by simpa using e⟩
theorem turn_no (L : List Hn) (h : Hn) (hL : ∀ y ∈ L, filB y.1 = true) (hf : filB h.1 = false) : remB L h = false ∧ remL L h = L := by
  have hn : h ∉ L := fun hm => by rw [hL h hm] at hf; cases hf
  refine ⟨by rw [rem_mem, Bool.eq_false_iff]; intro he; exact hn (List.contains_iff_mem.1 he), ?_⟩
  unfold remL
  rw [List.filter_eq_self]
  intro x hx
  simp only [bne_iff_ne, ne_eq]
  rintro rfl; exact hn hx
end Go.Proofs.YtipdmfnkkkdlbaaGreatDoor
namespace Go.Proofs.YtipdmfnkkkdlbaaGreatDoor
open Go.RowKit
namespace lawTrieTurn
set_option maxHeartbeats 4000000 in
set_option maxRecDepth 100000 in
theorem walk (w : World) (hG : GT w) (A : Option Addr) (n c : Nat) (l : List Ac) (hs : Acts w A n l) (hn : n ≤ 9223372036854775807) (hi : Hid (∀ x ∈ l, AcIn x)) (f : List UInt8) (hf : f.length ≤ 9223372036854775807) (d : List UInt8) (hd : d.length ≤ 9223372036854775807) :
    Calls Tryz.prog 7 #[.slice A n c, .string ⟨f.toArray⟩, .string ⟨d.toArray⟩] w fun e w' => e = .returned (.bool true) ∧ Below w.heap.size w w' := by
  have HG := Lib.hid hG
  have HS := Lib.hid hs
  have HL := Lib.hid hs.len
  have HI := Lib.hid hi
  clear hG hs hi
  go_enter Tryz.func7, Tryz.ntmps7
  go_wp2_with fail
  refine (great9_any A n c l _ HS.out hn HI.out).mono ?_
  rintro e w0 ⟨b, rfl, hok, rfl⟩
  cases b with
  | true =>
    go_wp2_with fail
    refine (awake9_any _ HG.out).mono ?_
    rintro e w1 ⟨rfl, hb⟩
    go_wp2_with fail
    go_ret
    exact ⟨rfl, hb⟩
  | false =>
    have hok2 := hok rfl
    have hn60 : n ≤ 60 := by have := HL.out; have := hok2.1; omega
    have HFil := Lib.hid (made_fil l)
    clear hok
    by_cases hf3 : 300 < f.length
    · have hf3I : (300 : Int) < (f.length : Int) := by omega
      go_wp2_with fail
      refine (awake9_any _ HG.out).mono ?_
      rintro e w1 ⟨rfl, hb⟩
      go_wp2_with fail
      go_ret
      exact ⟨rfl, hb⟩
    · have hf3I : ¬ (300 : Int) < (f.length : Int) := by omega
      by_cases hd3 : 300 < d.length
      · have hd3I : (300 : Int) < (d.length : Int) := by omega
        go_wp2_with fail
        refine (awake9_any _ HG.out).mono ?_
        rintro e w1 ⟨rfl, hb⟩
        go_wp2_with fail
        go_ret
        exact ⟨rfl, hb⟩
      · have hd3I : ¬ (300 : Int) < (d.length : Int) := by omega
        have hf9 : f.length ≤ 300 := by omega
        have hd9 : d.length ≤ 300 := by omega
        clear hf3 hd3
        go_wp2_with fail
        refine (made_any _ HG.out A n c l HS.out hok2).mono ?_
        clear hok2
        generalize madeL l = L at HFil
        rintro e w2 ⟨t, F, rfl, hP, hk0, hb, hF⟩
        have hk : Hid (HsOk 100 L) := hk0.le (by omega)
        have hk1 : Hid (HsOk 61 L) := hk0.le (by omega)
        obtain ⟨N, hN⟩ : ∃ N, L.length = N := ⟨_, rfl⟩
        have HN := Lib.hid hN
        have hN60 : N ≤ 60 := by have := hk0.2.1; omega
        obtain ⟨D, hD⟩ : ∃ D, nodL L = D := ⟨_, rfl⟩
        have HD := Lib.hid hD
        clear hk0 hN hD
        go_wp2_with fail
        refine (tAll (HG.out.below hb) hP hk.out).mono ?_
        rintro e w3 ⟨v3, rfl, hO3⟩
        have hb3 := hO3.below
        obtain ⟨A6, N6, c6, rfl, hs6, hA6, hnc6, hg6⟩ := hO3.told2
        have hN6 : N6 = N := by rw [← hs6.len, HN.out]
        rw [hN6] at hs6 ⊢
        have hA60 : Hid (∀ b o, A6 = some ⟨b, o, none⟩ → o = 0) := fun b o e => by
          rcases hA6 with ⟨h1, _⟩ | ⟨b2, h1⟩
          · rw [h1] at e; cases e
          · rw [h1] at e; cases e; rfl
        have hA6F : Hid (0 < N → ∀ b, A6 = some ⟨b, 0, none⟩ → ¬ F b) := fun _ b e hf => by have := hP.lt b hf; have := hg6 b e; omega
        have HP := Lib.hid (hP.below hb3)
        replace hb := below_more hb hb3
        have H6 := Lib.hid hs6
        clear hP hb3 hO3 hA6 hnc6 hg6 hs6 hN6
        go_wp2_with fail
        refine (tNodes D (HG.out.below hb) HP.out hk.out HD.out).mono ?_
        rintro e w4 ⟨rfl, hb4⟩
        replace hb := below_more hb hb4
        replace HP := Lib.hid (HP.out.below hb4)
        replace H6 := Lib.hid (H6.out.below hb4)
        have hA6lt : Hid (∀ b, A6 = some ⟨b, 0, none⟩ → 0 < N → b < w4.heap.size) := fun b e h0 => by
          obtain ⟨b1, o1, x, e1, _, hc1, _⟩ := H6.out.at_ (k := 0) h0
          rw [e] at e1; cases e1
          exact World.block_lt_of_cell? _ _ hc1
        clear hb4
        cases hab : addB L (f, d) with
        | true =>
          obtain ⟨m1, m2, m3, m4⟩ := turn_in L (f, d) hk.out.1 hab
          have HM1 := Lib.hid (of_has _ (f, d) true m1)
          have HM2 := Lib.hid (m2.trans (by rw [HN.out] : L.length + 1 = N + 1))
          have HM3 := Lib.hid m3
          have HM4 := Lib.hid m4
          have hk2 : Hid (HsOk 100 (addL L (f, d))) := (hk1.out.add (h := (f, d)) hf9 hd9).le (by omega)
          have HAB := Lib.hid hab
          clear m1 m2 m3 m4 hab
          go_wp2_with fail
          refine (tAdd f d (addL L (f, d)) true (HG.out.below hb) HP.out hk.out hf9 hd9 rfl HAB.out).mono ?_
          generalize addL L (f, d) = M at HM1 HM2 HM3 HM4 hk2
          rintro e wa1 ⟨F1, rfl, hP1, hU1, hV1⟩
          have hF1 : ∀ b, F1 b → w.heap.size ≤ b := fun b h => by
            rcases hV1 b h with h2 | h2
            · exact hF b h2
            · have := hb.size; omega
          have H6x : Hid (Hnts wa1 A6 N L) := H6.out.outs hU1 hA6F.out hA60.out
          have hA6x : Hid (0 < N → ∀ b, A6 = some ⟨b, 0, none⟩ → ¬ F1 b) := fun h0 b e hf => by
            rcases hV1 b hf with h3 | h3
            · exact hA6F.out h0 b e h3
            · obtain ⟨b1, o1, x, e1, _, hc1, _⟩ := H6.out.at_ (k := 0) h0
              rw [e] at e1; cases e1
              exact absurd (World.block_lt_of_cell? _ _ hc1) (Nat.not_lt.2 h3)
          replace hb := hb.trans (hU1.below (B := w.heap.size) (fun b _ h => hF b h) hb.size)
          clear HP hU1 hV1 hF H6 hA6F
          have HP := Lib.hid hP1
          have hF := hF1
          have H6 := H6x
          have hA6F := hA6x
          clear hP1 hF1 H6x hA6x
          go_wp2_with fail
          refine (tOf d _ (HG.out.below hb) HP.out hk2.out hd9 rfl).mono ?_
          rintro e wo ⟨v7, rfl, hO⟩
          have hb4 := hO.below
          obtain ⟨A7, c7, rfl, hs7, _⟩ := hO.row (Nat.le_refl _)
          have hl7 : (ofL M d).length ≤ 100 := Nat.le_trans (of_len _ _) hk2.out.2.1
          generalize ofL M d = O at HM1 hs7 hl7 hO
          clear hO
          replace hb := below_more hb hb4
          replace HP := Lib.hid (HP.out.below hb4)
          replace H6 := Lib.hid (H6.out.below hb4)
          clear hb4
          go_wp2_with fail
          refine (hasT_eq A7 O.length c7 O f true _ hs7 (by omega) HM1.out).mono ?_
          rintro e wp ⟨rfl, rfl⟩
          clear hs7 hl7
          go_wp2_with fail
          refine (tLen (N + 1) (HG.out.below hb) HP.out hk2.out HM2.out).mono ?_
          rintro e wk ⟨rfl, hb4⟩
          replace hb := below_more hb hb4
          replace HP := Lib.hid (HP.out.below hb4)
          replace H6 := Lib.hid (H6.out.below hb4)
          clear hb4
          go_wp2_with fail
          refine (tRem f d L true (HG.out.below hb) HP.out hk2.out hf9 hd9 HM4.out HM3.out).mono ?_
          rintro e wa2 ⟨F2, rfl, hP2, hU2, hV2⟩
          have hF2 : ∀ b, F2 b → w.heap.size ≤ b := fun b h => by
            rcases hV2 b h with h2 | h2
            · exact hF b h2
            · have := hb.size; omega
          have H6x : Hid (Hnts wa2 A6 N L) := H6.out.outs hU2 hA6F.out hA60.out
          have hA6x : Hid (0 < N → ∀ b, A6 = some ⟨b, 0, none⟩ → ¬ F2 b) := fun h0 b e hf => by
            rcases hV2 b hf with h3 | h3
            · exact hA6F.out h0 b e h3
            · obtain ⟨b1, o1, x, e1, _, hc1, _⟩ := H6.out.at_ (k := 0) h0
              rw [e] at e1; cases e1
              exact absurd (World.block_lt_of_cell? _ _ hc1) (Nat.not_lt.2 h3)
          replace hb := hb.trans (hU2.below (B := w.heap.size) (fun b _ h => hF b h) hb.size)
          clear HP hU2 hV2 hF H6 hA6F
          have HP := Lib.hid hP2
          have hF := hF2
          have H6 := H6x
          have hA6F := hA6x
          clear hP2 hF2 H6x hA6x
          go_wp2_with fail
          refine (tAll (HG.out.below hb) HP.out hk.out).mono ?_
          rintro e wo ⟨v7, rfl, hO⟩
          have hb4 := hO.below
          obtain ⟨A7, c7, rfl, hs7, _⟩ := hO.row (Nat.le_refl _)
          rw [HN.out] at hs7 ⊢
          clear hO
          replace hb := below_more hb hb4
          replace HP := Lib.hid (HP.out.below hb4)
          replace H6 := Lib.hid (H6.out.below hb4)
          clear hb4
          go_wp2_with fail
          refine (sameHints_eq A7 N c7 L A6 N c6 L true _ hs7 H6.out (by omega) (by simp)).mono ?_
          rintro e wk ⟨rfl, hb4⟩
          replace hb := below_more hb hb4
          replace HP := Lib.hid (HP.out.below hb4)
          clear hb4 hs7 H6
          go_wp2_with fail
          refine (tNodes D (HG.out.below hb) HP.out hk.out HD.out).mono ?_
          rintro e wk ⟨rfl, hb4⟩
          replace hb := below_more hb hb4
          clear hb4 HP
          go_wp2_with fail
          refine (awake9_any _ (HG.out.below hb)).mono ?_
          rintro e w9 ⟨rfl, hb4⟩
          replace hb := below_more hb hb4
          clear hb4
          go_wp2_with fail
          go_ret
          exact ⟨rfl, hb⟩
        | false =>
          have HA1 := Lib.hid (add_no L (f, d) hab)
          have HAB := Lib.hid hab
          go_wp2_with fail
          refine (tAdd f d L false (HG.out.below hb) HP.out hk.out hf9 hd9 HA1.out HAB.out).mono ?_
          rintro e wa1 ⟨F1, rfl, hP1, hU1, hV1⟩
          have hF1 : ∀ b, F1 b → w.heap.size ≤ b := fun b h => by
            rcases hV1 b h with h2 | h2
            · exact hF b h2
            · have := hb.size; omega
          have H6x : Hid (Hnts wa1 A6 N L) := H6.out.outs hU1 hA6F.out hA60.out
          have hA6x : Hid (0 < N → ∀ b, A6 = some ⟨b, 0, none⟩ → ¬ F1 b) := fun h0 b e hf => by
            rcases hV1 b hf with h3 | h3
            · exact hA6F.out h0 b e h3
            · obtain ⟨b1, o1, x, e1, _, hc1, _⟩ := H6.out.at_ (k := 0) h0
              rw [e] at e1; cases e1
              exact absurd (World.block_lt_of_cell? _ _ hc1) (Nat.not_lt.2 h3)
          replace hb := hb.trans (hU1.below (B := w.heap.size) (fun b _ h => hF b h) hb.size)
          clear HP hU1 hV1 hF H6 hA6F
          have HP := Lib.hid hP1
          have hF := hF1
          have H6 := H6x
          have hA6F := hA6x
          clear hP1 hF1 H6x hA6x
          cases hfb : filB f with
          | true =>
            obtain ⟨m1, m2, m3, m4⟩ := turn_out L (f, d) hk.out.1 hab hfb
            have HM1 := Lib.hid m1
            have HM2 := Lib.hid (of_has _ (f, d) false m2)
            have HM3 := Lib.hid m3
            have HM4 := Lib.hid m4
            have HFB := Lib.hid hfb
            have hk2 : Hid (HsOk 100 (remL L (f, d))) := (hk1.out.rem (f, d)).le (by omega)
            clear m1 m2 m3 m4 hab hfb
            go_wp2_with fail
            refine (tpFilter_eq f true _ (HG.out.below hb) (by omega) HFB.out).mono ?_
            rintro e wk ⟨rfl, hb4⟩
            replace hb := below_more hb hb4
            replace HP := Lib.hid (HP.out.below hb4)
            replace H6 := Lib.hid (H6.out.below hb4)
            clear hb4
            go_wp2_with fail
            refine (tRem f d (remL L (f, d)) true (HG.out.below hb) HP.out hk.out hf9 hd9 rfl HM1.out).mono ?_
            generalize remL L (f, d) = M at HM2 HM3 HM4 hk2
            rintro e wa2 ⟨F2, rfl, hP2, hU2, hV2⟩
            have hF2 : ∀ b, F2 b → w.heap.size ≤ b := fun b h => by
              rcases hV2 b h with h2 | h2
              · exact hF b h2
              · have := hb.size; omega
            have H6x : Hid (Hnts wa2 A6 N L) := H6.out.outs hU2 hA6F.out hA60.out
            have hA6x : Hid (0 < N → ∀ b, A6 = some ⟨b, 0, none⟩ → ¬ F2 b) := fun h0 b e hf => by
              rcases hV2 b hf with h3 | h3
              · exact hA6F.out h0 b e h3
              · obtain ⟨b1, o1, x, e1, _, hc1, _⟩ := H6.out.at_ (k := 0) h0
                rw [e] at e1; cases e1
                exact absurd (World.block_lt_of_cell? _ _ hc1) (Nat.not_lt.2 h3)
            replace hb := hb.trans (hU2.below (B := w.heap.size) (fun b _ h => hF b h) hb.size)
            clear HP hU2 hV2 hF H6 hA6F
            have HP := Lib.hid hP2
            have hF := hF2
            have H6 := H6x
            have hA6F := hA6x
            clear hP2 hF2 H6x hA6x
            go_wp2_with fail
            refine (tOf d _ (HG.out.below hb) HP.out hk2.out hd9 rfl).mono ?_
            rintro e wo ⟨v7, rfl, hO⟩
            have hb4 := hO.below
            obtain ⟨A7, c7, rfl, hs7, _⟩ := hO.row (Nat.le_refl _)
            have hl7 : (ofL M d).length ≤ 100 := Nat.le_trans (of_len _ _) hk2.out.2.1
            generalize ofL M d = O at HM2 hs7 hl7 hO
            clear hO
            replace hb := below_more hb hb4
            replace HP := Lib.hid (HP.out.below hb4)
            replace H6 := Lib.hid (H6.out.below hb4)
            clear hb4
            go_wp2_with fail
            refine (hasT_eq A7 O.length c7 O f false _ hs7 (by omega) HM2.out).mono ?_
            rintro e wp ⟨rfl, rfl⟩
            clear hs7 hl7
            go_wp2_with fail
            refine (tAdd f d L true (HG.out.below hb) HP.out hk2.out hf9 hd9 HM4.out HM3.out).mono ?_
            rintro e wa3 ⟨F3, rfl, hP3, hU3, hV3⟩
            have hF3 : ∀ b, F3 b → w.heap.size ≤ b := fun b h => by
              rcases hV3 b h with h2 | h2
              · exact hF b h2
              · have := hb.size; omega
            have H6x : Hid (Hnts wa3 A6 N L) := H6.out.outs hU3 hA6F.out hA60.out
            have hA6x : Hid (0 < N → ∀ b, A6 = some ⟨b, 0, none⟩ → ¬ F3 b) := fun h0 b e hf => by
              rcases hV3 b hf with h3 | h3
              · exact hA6F.out h0 b e h3
              · obtain ⟨b1, o1, x, e1, _, hc1, _⟩ := H6.out.at_ (k := 0) h0
                rw [e] at e1; cases e1
                exact absurd (World.block_lt_of_cell? _ _ hc1) (Nat.not_lt.2 h3)
            replace hb := hb.trans (hU3.below (B := w.heap.size) (fun b _ h => hF b h) hb.size)
            clear HP hU3 hV3 hF H6 hA6F
            have HP := Lib.hid hP3
            have hF := hF3
            have H6 := H6x
            have hA6F := hA6x
            clear hP3 hF3 H6x hA6x
            go_wp2_with fail
            refine (tAll (HG.out.below hb) HP.out hk.out).mono ?_
            rintro e wo ⟨v7, rfl, hO⟩
            have hb4 := hO.below
            obtain ⟨A7, c7, rfl, hs7, _⟩ := hO.row (Nat.le_refl _)
            rw [HN.out] at hs7 ⊢
            clear hO
            replace hb := below_more hb hb4
            replace HP := Lib.hid (HP.out.below hb4)
            replace H6 := Lib.hid (H6.out.below hb4)
            clear hb4
            go_wp2_with fail
            refine (sameHints_eq A7 N c7 L A6 N c6 L true _ hs7 H6.out (by omega) (by simp)).mono ?_
            rintro e wk ⟨rfl, hb4⟩
            replace hb := below_more hb hb4
            replace HP := Lib.hid (HP.out.below hb4)
            clear hb4 hs7 H6
            go_wp2_with fail
            refine (tNodes D (HG.out.below hb) HP.out hk.out HD.out).mono ?_
            rintro e wk ⟨rfl, hb4⟩
            replace hb := below_more hb hb4
            clear hb4 HP
            go_wp2_with fail
            refine (awake9_any _ (HG.out.below hb)).mono ?_
            rintro e w9 ⟨rfl, hb4⟩
            replace hb := below_more hb hb4
            clear hb4
            go_wp2_with fail
            go_ret
            exact ⟨rfl, hb⟩
          | false =>
            obtain ⟨m1, m2⟩ := turn_no L (f, d) HFil.out hfb
            have HM1 := Lib.hid m1
            have HM2 := Lib.hid m2
            have HFB := Lib.hid hfb
            clear m1 m2 hab hfb
            go_wp2_with fail
            refine (tpFilter_eq f false _ (HG.out.below hb) (by omega) HFB.out).mono ?_
            rintro e wk ⟨rfl, hb4⟩
            replace hb := below_more hb hb4
            replace HP := Lib.hid (HP.out.below hb4)
            replace H6 := Lib.hid (H6.out.below hb4)
            clear hb4
            go_wp2_with fail
            refine (tRem f d L false (HG.out.below hb) HP.out hk.out hf9 hd9 HM2.out HM1.out).mono ?_
            rintro e wa2 ⟨F2, rfl, hP2, hU2, hV2⟩
            have hF2 : ∀ b, F2 b → w.heap.size ≤ b := fun b h => by
              rcases hV2 b h with h2 | h2
              · exact hF b h2
              · have := hb.size; omega
            have H6x : Hid (Hnts wa2 A6 N L) := H6.out.outs hU2 hA6F.out hA60.out
            have hA6x : Hid (0 < N → ∀ b, A6 = some ⟨b, 0, none⟩ → ¬ F2 b) := fun h0 b e hf => by
              rcases hV2 b hf with h3 | h3
              · exact hA6F.out h0 b e h3
              · obtain ⟨b1, o1, x, e1, _, hc1, _⟩ := H6.out.at_ (k := 0) h0
                rw [e] at e1; cases e1
                exact absurd (World.block_lt_of_cell? _ _ hc1) (Nat.not_lt.2 h3)
            replace hb := hb.trans (hU2.below (B := w.heap.size) (fun b _ h => hF b h) hb.size)
            clear HP hU2 hV2 hF H6 hA6F
            have HP := Lib.hid hP2
            have hF := hF2
            have H6 := H6x
            have hA6F := hA6x
            clear hP2 hF2 H6x hA6x
            go_wp2_with fail
            refine (tAll (HG.out.below hb) HP.out hk.out).mono ?_
            rintro e wo ⟨v7, rfl, hO⟩
            have hb4 := hO.below
            obtain ⟨A7, c7, rfl, hs7, _⟩ := hO.row (Nat.le_refl _)
            rw [HN.out] at hs7 ⊢
            clear hO
            replace hb := below_more hb hb4
            replace HP := Lib.hid (HP.out.below hb4)
            replace H6 := Lib.hid (H6.out.below hb4)
            clear hb4
            go_wp2_with fail
            refine (sameHints_eq A7 N c7 L A6 N c6 L true _ hs7 H6.out (by omega) (by simp)).mono ?_
            rintro e wk ⟨rfl, hb4⟩
            replace hb := below_more hb hb4
            replace HP := Lib.hid (HP.out.below hb4)
            clear hb4 hs7 H6
            go_wp2_with fail
            refine (tNodes D (HG.out.below hb) HP.out hk.out HD.out).mono ?_
            rintro e wk ⟨rfl, hb4⟩
            replace hb := below_more hb hb4
            clear hb4 HP
            go_wp2_with fail
            refine (awake9_any _ (HG.out.below hb)).mono ?_
            rintro e w9 ⟨rfl, hb4⟩
            replace hb := below_more hb hb4
            clear hb4
            go_wp2_with fail
            go_ret
            exact ⟨rfl, hb⟩
end lawTrieTurn
end Go.Proofs.YtipdmfnkkkdlbaaGreatDoor
namespace Go.Proofs.YtipdmfnkkkdlbaaGreatDoor
open Go.RowKit Go.ChangeShapes Go.WideShapes Go.ChangeAt
open Go.ChangeMaps (open_string shut_string)
namespace lawTrieTurn
set_option maxRecDepth 100000 in
theorem lifted (os : Os) (started : os.Started) (H : Type) (enc : TypeId × Value → H) :
    ReturnsInHanded {} Tryz.checked os 7 .any (fun w args => (Rows.trieTurnSpec.pre enc Tryz.prog Tryz.f7 [] false w args ∧ laidMetH Tryz.prog laidL w) ∧ sizedMet enc Tryz.prog Tryz.f7 (OpenSpec.ofChange Rows.trieTurnSpec) false w args)
      (Rows.trieTurnSpec.post enc Tryz.prog Tryz.f7 false true false false) := by
  refine handed_laid (C := Tryz.checked) (X := fun w _ => laidMetH Tryz.prog laidL w) own_none started (by kernel_rfl) Tryz.func7 (laid_witness os Rows.trieTurnSpec #[.slice none 0 0, .string ByteArray.empty, .string ByteArray.empty] (by kernel_rfl) (by kernel_rfl) (by kernel_rfl)) ?_
  intro W base args ds gs before hval0 hW hsh
  have hval : ∀ (j : Nat) t v, Tryz.f7.params[j]? = some t → args[j]? = some v → Value.okWide Tryz.prog W .any base t v := hval0
  have hWk := hW
  obtain ⟨p, q, hA0, hV, hbef, _, _⟩ := hWk
  have hA : DataW.TrodAll enc Tryz.prog W 0 (fun _ => true) true Tryz.f7.params.toList args.toList ds p := hA0
  obtain ⟨rfl, rfl⟩ := trodVars_none hV
  rw [Tryz.params7] at hA hval
  obtain ⟨v0, vs0, d0, ds0, p0, q0, hargs, rfl, hp0, h0, r0⟩ := trodAll_cons hA
  obtain ⟨v1, vs1, d1, ds1, p1, q1, rfl, rfl, hp1, h1, r1⟩ := trodAll_cons r0
  obtain ⟨v2, vs2, d2, ds2, p2, q2, rfl, rfl, hp2, h2, r2⟩ := trodAll_cons r1
  obtain ⟨rfl, rfl, hpn⟩ := trodAll_nil r2
  obtain rfl : args = #[v0, v1, v2] := by cases args; simp_all
  obtain ⟨A0, n0, c0, l0, rfl, hs0, _, hn0, hi0⟩ := open_Acts (hval 0 22 v0 rfl rfl) h0
  obtain ⟨s1, rfl, rfl, hx1, w1⟩ := open_string Tryz.underlying9 (hval 1 9 v1 rfl rfl) h1
  obtain ⟨a1, rfl, hl1⟩ := str_of s1
  obtain ⟨s2, rfl, rfl, hx2, w2⟩ := open_string Tryz.underlying9 (hval 2 9 v2 rfl rfl) h2
  obtain ⟨a2, rfl, hl2⟩ := str_of s2
  refine (walk W (glo_of hsh) A0 n0 c0 l0 hs0 hn0 hi0 a1 (by unfold maxLen at w1; omega) a2 (by unfold maxLen at w2; omega)).mono fun e W' ⟨he, hg⟩ => ?_
  subst he
  exact ⟨_, rfl, law_post laid_out (by kernel_rfl) rfl (by kernel_rfl) Tryz.underlying4 hW rfl hg⟩

theorem over : Rows.trieTurnRow.holds Tryz.pinned (OpenSpec.ofChange Rows.trieTurnSpec) :=
  OpenClaim.holds_of_wide 7 Tryz.f7 rfl rfl rfl rfl rfl rfl rfl ⟨rfl, rfl, rfl, rfl, rfl⟩ rfl rfl rfl rfl rfl (by kernel_rfl) Tryz.func7 (by kernel_rfl)
    (of_decide_eq_true (by kernel_rfl)) (by unfold Func.isWrapper; first | (rw [if_pos (by decide +kernel)]; kernel_rfl) | (rw [if_neg (by decide +kernel)]; exact ⟨rfl, rfl⟩))
    (fun os started H enc _ => lifted os started H enc)

/-- THE STATEMENT: the card. -/
theorem proved : Rows.TrieTurnCardSaid :=
  Claim7.holds_tied_plain_at .later [] [.data, .pinned] true Rows.trieTurnCard.stood.harness false over (fun _ h => by cases h) (by kernel_rfl) (fun _ h => by cases h) trieTurn_row_tie rfl ⟨rfl, rfl⟩ (by kernel_rfl) rfl
    (fun f fn hf hfn => by
      obtain rfl : f = 7 := Option.some.inj ((show Tryz.prog.funcNamed Rows.trieTurnRow.func = some 7 by kernel_rfl).symm.trans hf) |>.symm
      obtain rfl : fn = Tryz.f7 := (Option.some.inj (Tryz.func7.symm.trans hfn)).symm
      exact ⟨by kernel_rfl, fun j t ht => by
        have hm : t ∈ Tryz.f7.params.toList := by simpa using Array.mem_of_getElem? ht
        have hall : (Tryz.f7.params.toList.all fun u => !Tryz.prog.wantsStandIn u) = true := by kernel_rfl
        exact (show Tryz.prog.wantsStandIn t = false by simpa using List.all_eq_true.1 hall t hm)⟩)
    (by kernel_rfl)
end lawTrieTurn
end Go.Proofs.YtipdmfnkkkdlbaaGreatDoor
