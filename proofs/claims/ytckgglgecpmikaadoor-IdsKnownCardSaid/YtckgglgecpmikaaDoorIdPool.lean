/-
  ids: New, Has, Len, Free, Take of the program.
-/
import Derived.Test.YtckgglgecpmikaaDoorIdBits
import Derived.Test.YtckgglgecpmikaaDoorIdOwn
import Derived.Laws.BitsAllLaws
set_option linter.unusedSimpArgs false
set_option linter.unusedVariables false
namespace Go.Proofs.YtckgglgecpmikaaDoor
open Go.RowKit

theorem xor_eq (x y : Nat) (hx : x < 18446744073709551616) (hy : 18446744073709551615 - x = y) : bits BinOp.xor IntKind.u64 (if IntKind.u64.signed = true then -1 else IntKind.u64.max) (x : Int) = (y : Int) := by
  show bits BinOp.xor IntKind.u64 ((18446744073709551615 : Nat) : Int) (x : Int) = _
  rw [u64_xor_nat _ _ (by omega) hx, xor_full x hx, hy]
def u64V (x : Nat) : Value := .int .u64 (x : Int)
theorem info64 : (Tryd.prog.info? 53).map (fun i => (i.zero, i.size, i.bytes)) = some (some (.int .u64 0), 1, 8) := by kernel_rfl
/-- The program's pool at t, in the blocks F: the ids L are taken. -/
def PI (w : World) (t : Nat) (F : Nat → Prop) (L : List Nat) : Prop :=
  ∃ v ws, w.heap[t]? = some (.cells #[.bool true, v, .int .i64 (L.length : Nat)] 34 (0, 0)) ∧ w.ownsRow 0 53 1 v ws.length (ws.map u64V) ∧ v.ownBlock ≠ some t ∧ WL ws L ∧ ∀ x, F x ↔ x = t ∨ v.ownBlock = some x
section
variable {w w' : World} {t : Nat} {F : Nat → Prop} {L : List Nat}
theorem PI.root (h : PI w t F L) : F t := by obtain ⟨v, ws, _, _, _, _, hF⟩ := h; exact (hF t).2 (Or.inl rfl)
theorem PI.lt (h : PI w t F L) (b : Nat) (hb : F b) : b < w.heap.size := by
  obtain ⟨v, ws, h1, h2, _, _, hF⟩ := h
  rcases (hF b).1 hb with rfl | hb
  · exact (Array.getElem?_eq_some_iff.1 h1).1
  · exact (h2.lt b hb).2
theorem PI.keep (h : PI w t F L) (hk : ∀ b, F b → w'.heap[b]? = w.heap[b]?) : PI w' t F L := by
  obtain ⟨v, ws, h1, h2, h3, h4, hF⟩ := h
  exact ⟨v, ws, (hk t ((hF t).2 (Or.inl rfl))).trans h1, vrow_keep h2 (fun b hb => hk b ((hF b).2 (Or.inr hb))), h3, h4, hF⟩
theorem PI.below (h : PI w t F L) (hb : Below w.heap.size w w') : PI w' t F L := h.keep fun b hF => hb.block b (h.lt b hF)
theorem PI.outs {G : Nat → Prop} (h : PI w t F L) (hU : Outs w w' G) (hG : ∀ b, F b → ¬ G b) : PI w' t F L := h.keep fun b hF => hU.block b (h.lt b hF) (hG b hF)
theorem PI.srt (h : PI w t F L) : Srt ltN L := by obtain ⟨_, _, _, _, _, hW, _⟩ := h; exact hW.srt
theorem PI.pos (h : PI w t F L) : ∀ i ∈ L, 1 ≤ i ∧ i ≤ 65535 := by obtain ⟨_, _, _, _, _, hW, _⟩ := h; exact fun i hi => ⟨((hW.mem i).1 hi).1, hW.le i hi⟩
theorem PI.len (h : PI w t F L) : L.length ≤ 65535 := by obtain ⟨_, _, _, _, _, hW, _⟩ := h; exact hW.length
/-- A pool that New makes. -/
def NI (w : World) (e : Ending) (w' : World) : Prop := ∃ t F, e = .returned (.pointer (some ⟨t, 0, none⟩)) ∧ PI w' t F [] ∧ Below w.heap.size w w' ∧ ∀ b, F b → w.heap.size ≤ b
theorem iNew (w : World) : Calls Tryd.prog 8 #[] w fun e w' => NI w e w' := by
  go_enter Tryd.func8, Tryd.ntmps8
  go_wp2_with fail
  go_ret
  exact ⟨w.heap.size, fun x => x = w.heap.size, rfl, ⟨.slice none 0 0, [], heap_alloc_new w _, World.ownsRow_nil _ _ _ _, by simp [Value.ownBlock], WL.nil, fun x => by simp [Value.ownBlock]⟩, below_alloc (Below.refl _ _) _, fun b e => by omega⟩
theorem iLen (h : PI w t F L) : Calls Tryd.prog 11 #[.pointer (some ⟨t, 0, none⟩)] w fun e w' => e = .returned (.int .i64 (L.length : Nat)) ∧ w = w' := by
  obtain ⟨v, ws, h1, _⟩ := h
  have c2 := cell_of_row w t 2 _ _ _ h1
  go_enter Tryd.func11, Tryd.ntmps11
  go_wp2_with fail
  go_ret
  exact ⟨rfl, rfl⟩
theorem lowFree_any {v : Value} {ws : List Nat} {id : Nat} (hG : GloT w) (h1 : w.cell? ⟨t, 1, none⟩ = some v) (h2 : w.ownsRow 0 53 1 v ws.length (ws.map u64V)) (h4 : WL ws L) (hid : Lst L id) (hle : id ≤ 65535) :
    Calls Tryd.prog 23 #[.pointer (some ⟨t, 0, none⟩)] w fun e w' => e = .returned (.int .u16 (id : Nat)) ∧ w = w' := by
  obtain ⟨A, c, rfl, hc, hV, _, _⟩ := vrow_form h2
  have HV := Lib.hid hV
  have HW := Lib.hid h4
  have HG := Lib.hid hG
  have HI := Lib.hid hid
  have hlw := h4.len
  clear hV h4 hG h2 hid
  go_enter Tryd.func23, Tryd.ntmps23
  go_wp2_with fail
  go_loopw [11] (fun i wr => ∃ k : Nat, i = .int .i64 k ∧ k ≤ ws.length ∧ w = wr ∧ Hid (∀ j, j < k → ws[j]? = some 18446744073709551615)) (fun i _ => ws.length - (intOf i).toNat)
  case atStart => exact ⟨0, rfl, by omega, rfl, fun j hj => by omega⟩
  case round =>
    obtain ⟨k, rfl, hk, rfl, hF⟩ := hrel
    by_cases hlt : k < ws.length
    · obtain ⟨b, o, y, rfl, hy, hcy⟩ := HV.out.at_ hlt
      obtain ⟨x, hx, rfl⟩ : ∃ x, ws[k]? = some x ∧ u64V x = y := by
        rw [List.getElem?_map, Option.map_eq_some_iff] at hy
        exact hy
      have hkI : (k : Int) < (ws.length : Int) := by omega
      have hk0 : (0 : Int) ≤ (k : Int) := by omega
      unfold u64V at hcy
      have hxl := HW.out.word hx
      obtain ⟨y, hy9⟩ : ∃ y, 18446744073709551615 - x = y := ⟨_, rfl⟩
      have hxor := xor_eq x y hxl hy9
      by_cases h0 : y = 0
      · have hne : ((y : Int) != 0) = false := by simp [h0]
        have hF2 : Hid (∀ j, j < k + 1 → ws[j]? = some 18446744073709551615) := fun j hj => by
          by_cases e : j = k
          · subst e; rw [hx]; congr 1; omega
          · exact hF.out j (by omega)
        clear hx hy
        go_wp2_with fail
        go_roundw
        case rel => exact ⟨k + 1, by go_num, by omega, trivial, hF2⟩
        case measure => simp [intOf]; omega
      · have hne : ((y : Int) != 0) = true := by simp; omega
        obtain ⟨d, hd⟩ : ∃ d, Lib.ctz 64 y = d := ⟨_, rfl⟩
        have hle2 := HI.out.uniq (by have := HW.out.least (fun j hj => hF.out j hj) hx (by omega); rw [hy9, hd] at this; exact this)
        have HD := Lib.hid hd
        clear hx hy hd
        go_wp2_with fail
        refine (low_eq k y d w HG.out h0 (by omega) HD.out (by omega)).mono ?_
        rintro e w1 ⟨rfl, rfl⟩
        go_wp2_with fail
        go_ret
        exact ⟨by rw [hle2]; rfl, rfl⟩
    · obtain rfl : k = ws.length := by omega
      have hle2 := HI.out.uniq (HW.out.least_end hF.out)
      have h64 : Lib.ctz 64 1 = 0 := by decide
      have HC := Lib.hid h64
      clear h64
      go_wp2_with fail
      refine (low_eq ws.length 1 0 w HG.out (by decide) (by decide) HC.out (by omega)).mono ?_
      rintro e w1 ⟨rfl, rfl⟩
      go_wp2_with fail
      go_ret
      exact ⟨by rw [hle2]; rfl, rfl⟩
set_option maxHeartbeats 1000000 in
theorem iHas (h : PI w t F L) (id : Nat) (r : Bool) (hid : id ≤ 65535) (hr : decide (id ∈ L) = r) :
    Calls Tryd.prog 13 #[.pointer (some ⟨t, 0, none⟩), .int .u16 (id : Nat)] w fun e w' => e = .returned (.bool r) ∧ Below w.heap.size w w' := by
  obtain ⟨v, ws, h1, h2, _, h4, _⟩ := h
  obtain ⟨A, c, rfl, hc, hV, _, _⟩ := vrow_form h2
  obtain ⟨p, hp⟩ : ∃ p, (id + 65535) % 65536 = p := ⟨_, rfl⟩
  obtain ⟨k, hk⟩ : ∃ k, p / 64 = k := ⟨_, rfl⟩
  obtain ⟨b, hb⟩ : ∃ b, p % 64 = b := ⟨_, rfl⟩
  obtain ⟨m, hm⟩ : ∃ m, 2 ^ b = m := ⟨_, rfl⟩
  have c1 := cell_of_row w t 1 _ _ _ h1
  have HP := Lib.hid hp
  have HK := Lib.hid hk
  have HB := Lib.hid hb
  have HM := Lib.hid hm
  have HV := Lib.hid hV
  by_cases hlt : k < ws.length
  · obtain ⟨x, hx⟩ : ∃ x, ws[k]? = some x := ⟨ws[k], List.getElem?_eq_getElem hlt⟩
    have hxl := h4.word hx
    have hml : m < 18446744073709551616 := by rw [← hm]; exact Nat.pow_lt_pow_right (m := b) (n := 64) (by decide) (by omega)
    have hand := u64_and_nat x m hxl hml
    have hne := h4.has_bit hid hp hk hb hm hx
    rw [hr] at hne
    have hkI : (k : Int) < (ws.length : Int) := by omega
    have hk0 : (0 : Int) ≤ (k : Int) := by omega
    have HX := Lib.hid hx
    obtain ⟨y, hy⟩ : ∃ y, x &&& m = y := ⟨_, rfl⟩
    rw [hy] at hand hne
    clear hp hk hb hm hV h4 h2 hx hr hy
    go_enter Tryd.func13, Tryd.ntmps13
    go_wp2_with fail
    refine (place_any id p k b m w hid HP.out HK.out HB.out HM.out).mono ?_
    rintro e w1 ⟨rfl, hb1⟩
    have d1 := (hb1.cell (World.block_lt_of_cell? _ _ c1)).trans c1
    obtain ⟨bb, o, z, rfl, hz, hcz⟩ := (HV.out.below hb1).at_ hlt
    rw [List.getElem?_map, HX.out] at hz
    cases hz
    unfold u64V at hcz
    go_wp2_with fail
    go_ret
    exact ⟨rfl, hb1⟩
  · have hno := h4.has_past hid hp hk (by omega)
    rw [hr] at hno
    subst hno
    have hkI : ¬ (k : Int) < (ws.length : Int) := by omega
    clear hp hk hb hm hV h4 h2 hr
    go_enter Tryd.func13, Tryd.ntmps13
    go_wp2_with fail
    refine (place_any id p k b m w hid HP.out HK.out HB.out HM.out).mono ?_
    rintro e w1 ⟨rfl, hb1⟩
    have d1 := (hb1.cell (World.block_lt_of_cell? _ _ c1)).trans c1
    go_wp2_with fail
    go_ret
    exact ⟨rfl, hb1⟩
/-- Behind a store to a word and one to the count. -/
theorem PI.stored {g n c k y : Nat} {q : Value} {ws : List Nat} {M : List Nat} (h1 : w.heap[t]? = some (.cells #[.bool true, .slice (some ⟨g, 0, none⟩) n c, q] 34 (0, 0)))
    (h2 : w.ownsRow 0 53 1 (.slice (some ⟨g, 0, none⟩) n c) ws.length (ws.map u64V)) (hn : n = ws.length) (hne : g ≠ t) (hW : WL (ws.set k y) M) (hF : ∀ x, F x ↔ x = t ∨ (some g : Option Nat) = some x) :
    PI ((w.setCell ⟨g, k, none⟩ (u64V y)).setCell ⟨t, 2, none⟩ (.int .i64 (M.length : Nat))) t F M := by
  subst hn
  refine ⟨.slice (some ⟨g, 0, none⟩) ws.length c, ws.set k y, ?_, ?_, by simp [Value.ownBlock]; exact hne, hW, fun x => by rw [hF]; simp [Value.ownBlock]⟩
  · exact heap_setCell_same _ t 2 _ _ _ ((heap_setCell_other w ⟨g, k, none⟩ t _ (fun e => hne e.symm)).trans h1)
  · have e : (ws.set k y).map u64V = (ws.map u64V).set k (u64V y) := by rw [List.map_set]
    rw [e, List.length_set]
    exact vrow_keep (World.ownsRow.stored h2 k (u64V y)).1 (fun b hb => by
      have hgb : g = b := by simpa [Value.ownBlock] using hb
      subst hgb
      exact heap_setCell_other _ ⟨t, 2, none⟩ g _ hne)
/-- What Free leaves. -/
def FrP (w : World) (t : Nat) (F : Nat → Prop) (M : List Nat) (r : Bool) (e : Ending) (w' : World) : Prop :=
  ∃ F', e = .returned (.bool r) ∧ PI w' t F' M ∧ Outs w w' F ∧ ∀ x, F' x → F x ∨ w.heap.size ≤ x
theorem iFree_no (h : PI w t F L) (id : Nat) (hid : id ≤ 65535) (hr : id ∉ L) :
    Calls Tryd.prog 12 #[.pointer (some ⟨t, 0, none⟩), .int .u16 (id : Nat)] w fun e w' => FrP w t F L false e w' := by
  have HP := Lib.hid h
  have HR := Lib.hid (decide_eq_false hr)
  clear h hr
  go_enter Tryd.func12, Tryd.ntmps12
  go_wp2_with fail
  refine (iHas HP.out id false hid HR.out).mono ?_
  rintro e w1 ⟨rfl, hb1⟩
  go_wp2_with fail
  go_ret
  exact ⟨F, rfl, HP.out.below hb1, Outs.of_below hb1, fun x hx => Or.inl hx⟩
set_option maxHeartbeats 1000000 in
theorem iFree_yes (h : PI w t F L) (id : Nat) (hid : id ≤ 65535) (hr : id ∈ L) :
    Calls Tryd.prog 12 #[.pointer (some ⟨t, 0, none⟩), .int .u16 (id : Nat)] w fun e w' => FrP w t F (delN id L) true e w' := by
  have HP := Lib.hid h
  have HR := Lib.hid (decide_eq_true hr)
  have hpos := (h.pos id hr).1
  obtain ⟨v, ws, h1, h2, h3, h4, hF⟩ := h
  have hdl := del_len h4.srt hr
  have hll := h4.length
  obtain ⟨p, hp⟩ : ∃ p, (id + 65535) % 65536 = p := ⟨_, rfl⟩
  obtain ⟨k, hk⟩ : ∃ k, p / 64 = k := ⟨_, rfl⟩
  obtain ⟨b, hb⟩ : ∃ b, p % 64 = b := ⟨_, rfl⟩
  obtain ⟨m, hm⟩ : ∃ m, 2 ^ b = m := ⟨_, rfl⟩
  have hlt : k < ws.length := by
    apply Nat.lt_of_not_le
    intro hle
    have := h4.has_past hid hp hk hle
    simp [hr] at this
  obtain ⟨x, hx⟩ : ∃ x, ws[k]? = some x := ⟨ws[k], List.getElem?_eq_getElem hlt⟩
  have hxl := h4.word hx
  have hml : m < 18446744073709551616 := by rw [← hm]; exact Nat.pow_lt_pow_right (m := b) (n := 64) (by decide) (by omega)
  have hand := u64_andNot_nat x m hxl hml
  obtain ⟨y, hy⟩ : ∃ y, x &&& (18446744073709551615 - m) = y := ⟨_, rfl⟩
  rw [hy] at hand
  have hW2 : WL (ws.set k y) (delN id L) := by
    have hp2 : p = id - 1 := by omega
    subst hp2
    subst hk hb hm hy
    exact h4.cut hpos hx (fun j => cut_bit x _ j hxl (by omega)) (Nat.lt_of_le_of_lt Nat.and_le_left hxl)
  obtain ⟨g, c, rfl, _, hgl, hc, hcs, hfz, _⟩ := vrow_form1 h2 (by omega)
  have hgt : g ≠ t := by simpa [Value.ownBlock] using h3
  have hcx := hcs k (u64V x) (by rw [List.getElem?_map, hx]; rfl)
  have hfk := hfz k
  have c1 := cell_of_row w t 1 _ _ _ h1
  have c2 := cell_of_row w t 2 _ _ _ h1
  have f2 : w.frozen? ⟨t, 2, none⟩ = false := by unfold World.frozen?; rw [h1]; simp
  have htl := (Array.getElem?_eq_some_iff.1 h1).1
  have HK := Lib.hid hk
  have HB := Lib.hid hb
  have HM := Lib.hid hm
  have HPp := Lib.hid hp
  have HW2 := Lib.hid hW2
  have H1 := Lib.hid h1
  have H2 := Lib.hid h2
  have HF := Lib.hid hF
  have hkI : (k : Int) < (ws.length : Int) := by omega
  have hk0 : (0 : Int) ≤ (k : Int) := by omega
  obtain ⟨o, hok⟩ : ∃ o, o = k := ⟨_, rfl⟩
  rw [← hok] at hcx hfk
  have htg : ¬ t = g := fun e => hgt e.symm
  unfold u64V at hcx
  clear hk hb hm hp hW2 h1 h2 hF hx hcs hfz h4 hy hr h3
  go_enter Tryd.func12, Tryd.ntmps12
  go_wp2_with fail
  refine (iHas HP.out id true hid HR.out).mono ?_
  rintro e w1 ⟨rfl, hb1⟩
  go_wp2_with fail
  refine (place_any id p k b m w1 hid HPp.out HK.out HB.out HM.out).mono ?_
  rintro e w2 ⟨rfl, hb2⟩
  replace hb1 := below_more hb1 hb2
  have d1 := (hb1.cell (World.block_lt_of_cell? _ _ c1)).trans c1
  have d2 := (hb1.cell (World.block_lt_of_cell? _ _ c2)).trans c2
  have dx := (hb1.cell (World.block_lt_of_cell? _ _ hcx)).trans hcx
  have fx := (World.frozen?_of_block (a := ⟨g, o, none⟩) (hb1.block g hgl)).trans hfk
  have fy := (World.frozen?_of_block (a := ⟨t, 2, none⟩) (hb1.block t htl)).trans f2
  rw [hok] at dx fx
  clear c1 c2 hcx hfk f2 hb2
  go_wp2_with fail
  go_ret
  have hq : ((L.length : Nat) : Int) - 1 = ((delN id L).length : Nat) := by omega
  refine ⟨F, rfl, ?_, ?_, fun x hx => Or.inl hx⟩
  · rw [hq]
    exact PI.stored (w := w2) ((hb1.block t htl).trans H1.out) (own_below H2.out hb1) rfl hgt HW2.out (fun x => by rw [HF.out x]; simp [Value.ownBlock])
  · exact ((Outs.of_below hb1).setCell g k ((HF.out g).2 (Or.inr (by simp [Value.ownBlock]))) _).setCell t 2 ((HF.out t).2 (Or.inl rfl)) _
theorem iFree_any (h : PI w t F L) (id : Nat) (r : Bool) (hid : id ≤ 65535) (hr : decide (id ∈ L) = r) :
    Calls Tryd.prog 12 #[.pointer (some ⟨t, 0, none⟩), .int .u16 (id : Nat)] w fun e w' => FrP w t F (delN id L) r e w' := by
  subst hr
  by_cases hm : id ∈ L
  · rw [decide_eq_true hm]; exact iFree_yes h id hid hm
  · rw [decide_eq_false hm, del_no hm]; exact iFree_no h id hid hm
/-- What Take leaves. -/
def TkP (w : World) (t : Nat) (F : Nat → Prop) (id : Nat) (M : List Nat) (e : Ending) (w' : World) : Prop :=
  ∃ F', e = .returned (.tuple #[.int .u16 (id : Nat), .int .i64 0]) ∧ PI w' t F' M ∧ Outs w w' F ∧ ∀ x, F' x → F x ∨ w.heap.size ≤ x
theorem iTakeFull (h : PI w t F L) (hl : L.length = 65535) :
    Calls Tryd.prog 10 #[.pointer (some ⟨t, 0, none⟩)] w fun e w' => e = .returned (.tuple #[.int .u16 0, .int .i64 7]) ∧ w = w' := by
  obtain ⟨v, ws, h1, h2, h3, h4, hF⟩ := h
  rw [hl] at h1
  have c0 := cell_of_row w t 0 _ _ _ h1
  have c2 := cell_of_row w t 2 _ _ _ h1
  clear h4 h2 hF h3
  go_enter Tryd.func10, Tryd.ntmps10
  go_wp2_with fail
  go_ret2
  exact ⟨rfl, rfl⟩
theorem iTakeN (w : World) :
    Calls Tryd.prog 10 #[.pointer none] w fun e w' => e = .returned (.tuple #[.int .u16 0, .int .i64 8]) ∧ w = w' := by
  go_enter Tryd.func10, Tryd.ntmps10
  go_wp2_with fail
  go_ret2
  exact ⟨rfl, rfl⟩
theorem Outs.setOwn {w1 : World} (h : Outs w w1 F) (g i : Nat) (hg : F g ∨ w.heap.size ≤ g) (v : Value) : Outs w (w1.setCell ⟨g, i, none⟩ v) F :=
  ⟨h.os, h.tape, h.output, by simpa [World.setCell] using h.size, fun b hb hn => (heap_setCell_other w1 ⟨g, i, none⟩ b v (fun e' => by
    have e : g = b := e'.symm
    rcases hg with hg | hg
    · exact hn (e ▸ hg)
    · omega)).trans (h.block b hb hn)⟩
theorem tk_end {w2 : World} {g n c k y id : Nat} {ws M : List Nat} (hO : Outs w w2 F) (hgF : F g ∨ w.heap.size ≤ g) (htF : F t) (h1 : w2.heap[t]? = some (.cells #[.bool true, .slice (some ⟨g, 0, none⟩) n c, .int .i64 (L.length : Nat)] 34 (0, 0)))
    (h2 : w2.ownsRow 0 53 1 (.slice (some ⟨g, 0, none⟩) n c) ws.length (ws.map u64V)) (hn : n = ws.length) (hne : g ≠ t) (hW : WL (ws.set k y) M) (hM : M.length = L.length + 1) :
    TkP w t F id M (.returned (.tuple #[.int .u16 (id : Nat), .int .i64 0])) ((w2.setCell ⟨g, k, none⟩ (.int .u64 (y : Nat))).setCell ⟨t, 2, none⟩ (.int .i64 ((L.length : Nat) + 1))) := by
  have hq : ((L.length : Nat) : Int) + 1 = (M.length : Nat) := by omega
  refine ⟨fun x => x = t ∨ (some g : Option Nat) = some x, rfl, ?_, ?_, fun x hx => ?_⟩
  · rw [hq]
    exact PI.stored h1 h2 hn hne hW (fun x => Iff.rfl)
  · exact (hO.setOwn g k hgF _).setOwn t 2 (Or.inl htF) _
  · rcases hx with rfl | hx
    · exact Or.inl htF
    · cases hx; exact hgF
set_option maxRecDepth 100000 in
set_option maxHeartbeats 4000000 in
theorem iTake (h : PI w t F L) (hG : GloT w) (id : Nat) (M : List Nat) (hl : L.length < 65535) (hid : Lst L id) (hM : insO ltN id L = M) :
    Calls Tryd.prog 10 #[.pointer (some ⟨t, 0, none⟩)] w fun e w' => TkP w t F id M e w' := by
  have HGT := Lib.hid hG
  have HID := Lib.hid hid
  have hlen := hid.len
  have hle : id ≤ 65535 := by omega
  have hpos := hid.pos
  have hno := hid.no
  have HTF := Lib.hid h.root
  obtain ⟨v, ws, h1, h2, h3, h4, hF⟩ := h
  have hkl := h4.least_le hid
  obtain ⟨p, hp⟩ : ∃ p, (id + 65535) % 65536 = p := ⟨_, rfl⟩
  obtain ⟨k, hk⟩ : ∃ k, p / 64 = k := ⟨_, rfl⟩
  obtain ⟨b, hb⟩ : ∃ b, p % 64 = b := ⟨_, rfl⟩
  obtain ⟨m, hm⟩ : ∃ m, 2 ^ b = m := ⟨_, rfl⟩
  have hml : m < 18446744073709551616 := by rw [← hm]; exact Nat.pow_lt_pow_right (m := b) (n := 64) (by decide) (by omega)
  have hpk : (id - 1) / 64 = k := by omega
  have hpb : (id - 1) % 64 = b := by omega
  rw [hpk] at hkl
  have HLM : Hid (M.length = L.length + 1) := by show _ = _; rw [← hM]; exact ins_len' id L
  have hcnt : (((L.length : Nat) : Int) == 65535) = false := by simp; omega
  have c0 := cell_of_row w t 0 _ _ _ h1
  have c1 := cell_of_row w t 1 _ _ _ h1
  have c2 := cell_of_row w t 2 _ _ _ h1
  have f1 : ∀ i, w.frozen? ⟨t, i, none⟩ = false := fun i => by unfold World.frozen?; rw [h1]; simp
  have htl := (Array.getElem?_eq_some_iff.1 h1).1
  have hput : ∀ (ws' : List Nat) (x : Nat), WL ws' L → ws'[k]? = some x → WL (ws'.set k (x ||| m)) M := fun ws' x hW hx => by
    have := hW.put hpos hle hno (by rw [hpk]; exact hx)
    rwa [hpk, hpb, hm, hM] at this
  have HPUT := Lib.hid hput
  have HK := Lib.hid hk
  have HB := Lib.hid hb
  have HM := Lib.hid hm
  have HP := Lib.hid hp
  have HW := Lib.hid h4
  have H1 := Lib.hid h1
  have H2 := Lib.hid h2
  have HF := Lib.hid hF
  have HFZ := Lib.hid f1
  have h3' := Lib.hid h3
  have hk0 : (0 : Int) ≤ (k : Int) := by omega
  have hk1023 : k ≤ 1023 := by omega
  have hlv := h2.lt
  obtain ⟨A, c, rfl, hc, hV, hA0, hown⟩ := vrow_form h2
  have HOWN := Lib.hid hown
  have HLV := Lib.hid hlv
  have hcw : Hid (w.cell? ⟨t, 1, none⟩ = some (.slice A ws.length c)) := c1
  clear hk hb hm hp hpk hpb h1 h2 hF h4 hno hput hid hG hM f1 h3 hown hlv hV
  go_enter Tryd.func10, Tryd.ntmps10
  go_wp2_with fail
  refine (lowFree_any HGT.out hcw.out H2.out HW.out HID.out hle).mono ?_
  rintro e w1 ⟨rfl, rfl⟩
  go_wp2_with fail
  refine (place_any id p k b m w hle HP.out HK.out HB.out HM.out).mono ?_
  rintro e w2 ⟨rfl, hb2⟩
  have d1 := (hb2.cell (World.block_lt_of_cell? _ _ c1)).trans c1
  have d2 := (hb2.cell (World.block_lt_of_cell? _ _ c2)).trans c2
  have K1 := (hb2.block t htl).trans H1.out
  have K2 := own_below H2.out hb2
  have fz1 := (World.frozen?_of_block (a := ⟨t, 1, none⟩) (hb2.block t htl)).trans (HFZ.out 1)
  have fz2 := (World.frozen?_of_block (a := ⟨t, 2, none⟩) (hb2.block t htl)).trans (HFZ.out 2)
  have HB2 := Lib.hid hb2
  have hs2 := hb2.size
  have HK1 := Lib.hid K1
  have HK2 := Lib.hid K2
  by_cases hlt : k < ws.length
  · obtain ⟨x, hx⟩ : ∃ x, ws[k]? = some x := ⟨ws[k], List.getElem?_eq_getElem hlt⟩
    have hor := u64_or_nat x m (HW.out.word hx) hml
    have hne : ((k : Int) == (ws.length : Int)) = false := by simp; omega
    have hkI : (k : Int) < (ws.length : Int) := by omega
    have HWM := Lib.hid (HPUT.out ws x HW.out hx)
    obtain ⟨y, hy⟩ : ∃ y, x ||| m = y := ⟨_, rfl⟩
    rw [hy] at hor HWM
    obtain ⟨g, c', e, _, hgl, _, hcs, hfz, _⟩ := vrow_form1 K2 (by omega)
    injection e with e1 e2 e3
    subst e1 e3
    have hgF := (HOWN.out g).2 rfl
    have hgt : g ≠ t := fun e => h3'.out (e ▸ hgF)
    have dx := hcs k (u64V x) (by rw [List.getElem?_map, hx]; rfl)
    have fx := hfz k
    have htg : ¬ t = g := fun e => hgt e.symm
    have HGF := Lib.hid ((HF.out g).2 (Or.inr hgF))
    unfold u64V at dx
    clear c0 c1 c2 hx hcs hfz K1 K2 hb2 hgF hy
    go_wp2_with fail
    go_ret2
    exact tk_end (Outs.of_below HB2.out) (Or.inl HGF.out) HTF.out HK1.out HK2.out rfl hgt HWM.out HLM.out
  · obtain rfl : k = ws.length := by omega
    have hne : ((ws.length : Int) == (ws.length : Int)) = true := by simp
    have hor : bits .or .u64 0 (m : Int) = (m : Int) := by have := u64_or_nat 0 m (by decide) hml; simpa using this
    have HWM := Lib.hid (HPUT.out (ws ++ [0]) 0 (HW.out.snoc (by omega)) (by simp))
    rw [show (0 : Nat) ||| m = m from Nat.zero_or m] at HWM
    have hcell : (w2.alloc (.cells #[.int .u64 0] 53)).cell? ⟨w2.heap.size, 0, none⟩ = some (.int .u64 0) := World.cell?_alloc_new _ _ _ _
    obtain ⟨A', c', w4, hrun, hown4, hgr, hat⟩ := v_append (P := Tryd.prog) (T := 32) (ty := 32) (K2.alloc (.cells #[.int .u64 0] 53)) (Nat.zero_le _) Tryd.underlying32 info64 rfl (by decide) (some ⟨w2.heap.size, 0, none⟩) 1 1 [.int .u64 0] (Vals.one hcell) (by simp [Value.oneCell']) (fun e => by cases e) (by omega)
    have hrow : @World.ownsRow w4 0 53 1 (.slice A' (ws.length + 1) c') (ws ++ [0]).length ((ws ++ [0]).map u64V) := by
      rw [List.length_append, List.map_append]; exact hown4
    obtain ⟨g, c9, e, _, hgl, _, hcs, hfz, _⟩ := vrow_form1 hrow (by simp)
    injection e with e1 e2 e3
    subst e1
    have htb : some t ≠ (Value.slice A ws.length c).ownBlock := fun e => h3'.out e.symm
    have htl2 : t < w2.heap.size := Nat.lt_of_lt_of_le htl hs2
    have hb4 : w4.heap[t]? = w2.heap[t]? := (hgr.block t (by simp; omega) htb).trans (Below.heap_alloc w2 _ t htl2)
    have hgt : g ≠ t := fun e => by
      subst e
      rcases hat with h | h
      · exact htb (by rw [← h]; rfl)
      · have : g = w2.heap.size + 1 := by simpa [Value.ownBlock] using h
        omega
    have htg : ¬ t = g := fun e => hgt e.symm
    have g1 := (World.cell?_of_block (a := ⟨t, 1, none⟩) hb4).trans d1
    have g2 := (World.cell?_of_block (a := ⟨t, 2, none⟩) hb4).trans d2
    have k1 := (World.frozen?_of_block (a := ⟨t, 1, none⟩) hb4).trans fz1
    have k2 := (World.frozen?_of_block (a := ⟨t, 2, none⟩) hb4).trans fz2
    have dx : w4.cell? ⟨g, ws.length, none⟩ = some (.int .u64 0) := hcs ws.length (u64V 0) (by simp)
    have fx := hfz ws.length
    have hkI : (ws.length : Int) < (ws.length : Int) + 1 := by omega
    have HAT := Lib.hid hat
    have HROW := Lib.hid hrow
    have HGR := Lib.hid hgr
    have HB4 := Lib.hid hb4
    have HRun := Lib.hid hrun
    clear c0 c1 c2 hcs hfz K1 K2 hb2 hown4 hrow hgr hat hb4 hcell fz1 fz2 e2 e3 hrun hkl hlt
    go_wp2_with (at_builtin; refine wpList_vapp rfl _ _ _ rfl rfl rfl HRun.out ?_)
    go_wp2_with fail
    go_ret2
    have HOF : ∀ b, (Value.slice A ws.length c).ownBlock = some b → F b := fun b hb => (HF.out b).2 (Or.inr hb)
    have hgF : F g ∨ w.heap.size ≤ g := by
      rcases HAT.out with h | h
      · exact Or.inl (HOF g (by rw [← h]; rfl))
      · right
        have : g = w2.heap.size + 1 := by simpa [Value.ownBlock] using h
        omega
    have HOO : Outs w w4 F := ((Outs.of_below HB2.out).more (below_alloc (Below.refl _ _) (.cells #[.int .u64 0] 53))).trans (Outs.grown HGR.out HOF) (fun _ _ h => h)
    refine tk_end (ws := ws ++ [0]) (HOO.setCell t 1 HTF.out _) hgF HTF.out (heap_setCell_same w4 t 1 _ _ _ (HB4.out.trans HK1.out)) (vrow_keep (by have := HROW.out; rwa [List.length_append] at this ⊢) (fun b hb => ?_)) (by simp) hgt HWM.out HLM.out
    have hgb : g = b := by simpa [Value.ownBlock] using hb
    subst hgb
    exact heap_setCell_other w4 ⟨t, 1, none⟩ g _ hgt
end
end Go.Proofs.YtckgglgecpmikaaDoor
