/-
  trie: Add.
-/
import Derived.Test.YtipdmfnkkkdlbaaGreatDoorTgAdd
import Derived.Test.YtipdmfnkkkdlbaaGreatDoorTpTop
import Derived.Laws.IdiomRangeMap
set_option linter.unusedSimpArgs false
set_option linter.unusedVariables false
namespace Go.Proofs.YtipdmfnkkkdlbaaGreatDoor
open Go.RowKit Go.Maps

/-- The program's trie at t, in blocks F, has the hints L. -/
def PTG (w : World) (t : Nat) (G : TG) (ps : List Pth) (L : List Hn) : Prop :=
  TR w t G (L.length : Nat) (ps.length : Nat) ∧ PsOk G ps ∧ (∀ p c, G.cl p c ↔ ∃ x ∈ L, levs x.1 = p ∧ x.2 = c) ∧ (∀ p ∈ ps, ∃ x ∈ L, p <+: levs x.1) ∧ ∀ x ∈ L, filB x.1 = true
section
variable {w w' : World} {t : Nat} {G : TG} {ps : List Pth} {L : List Hn}
theorem pre_len : ∀ (L : List Hn) (ps : List Pth) (m : Nat), ps.Nodup → (∀ p ∈ ps, ∃ x ∈ L, p <+: levs x.1) → (∀ x ∈ L, x.1.length ≤ m) → ps.length ≤ L.length * (m + 2) := by
  intro L ps m hn hm hl
  have h1 : ∀ p ∈ ps, p ∈ L.flatMap fun x => (List.range ((levs x.1).length + 1)).map fun j => (levs x.1).take j := by
    intro p hp
    obtain ⟨x, hx, hpre⟩ := hm p hp
    refine List.mem_flatMap.2 ⟨x, hx, List.mem_map.2 ⟨p.length, List.mem_range.2 (by have := hpre.length_le; omega), ?_⟩⟩
    exact (List.prefix_iff_eq_take.1 hpre).symm
  refine Nat.le_trans (sub_len ps _ hn h1) ?_
  clear h1 hm hn
  induction L with
  | nil => simp
  | cons x L ih =>
    rw [List.flatMap_cons, List.length_append, List.length_cons, Nat.add_mul, Nat.one_mul, List.length_map, List.length_range]
    have h1 := levs_len x.1
    have h2 := hl x (by simp)
    have h3 := ih (fun y hy => hl y (by simp [hy]))
    omega
theorem PTG.psl (h : PTG w t G ps L) (hL : L.length ≤ 100) (hl : ∀ x ∈ L, x.1.length ≤ 300) : ps.length ≤ 100000 := by
  have := pre_len L ps 300 h.2.1.1 h.2.2.2.1 hl
  have : L.length * 302 ≤ 100 * 302 := Nat.mul_le_mul_right _ hL
  omega
theorem PTG.cls (h : PTG w t G ps L) (p : Pth) : ∀ c, G.cl p c → c ∈ L.map (·.2) := fun c hc => by
  obtain ⟨x, hx, _, rfl⟩ := (h.2.2.1 p c).1 hc
  exact List.mem_map.2 ⟨x, hx, rfl⟩
theorem PTG.node (h : PTG w t G ps L) {x : Hn} (hx : x ∈ L) {p : Pth} (hp : p <+: levs x.1) : G.bl 0 p ≠ none := by
  obtain ⟨r, hr⟩ := hp
  have hc := (h.2.2.1 (levs x.1) x.2).2 ⟨x, hx, rfl, rfl⟩
  have h0 : G.bl 0 (levs x.1) ≠ none := fun e => h.1.no_cl e _ hc
  rw [← hr] at h0
  exact h.1.pre p r h0
theorem PTG.keep (h : PTG w t G ps L) (e : ∀ b, G.F b → w'.heap[b]? = w.heap[b]?) : PTG w' t G ps L := ⟨h.1.keep e, h.2⟩
/-- What Add, Remove leave. -/
def GP (w : World) (t : Nat) (G : TG) (M : List Hn) (r : Bool) (e : Ending) (w' : World) : Prop :=
  ∃ G' ps', e = .returned (.bool r) ∧ PTG w' t G' ps' M ∧ Outs w w' G.F ∧ ∀ x, G'.F x → G.F x ∨ w.heap.size ≤ x
theorem TR.no_str {h i : Int} (T : TR w t G h i) {b : Nat} {x : ByteArray} (hx : w.cell? ⟨b, 0, none⟩ = some (.string x)) : ¬ G.F b := by
  rintro ⟨k, p, hb⟩
  have hk := T.k3 k p b hb
  match k, hk with
  | 0, _ => have := (T.cell p b hb).1; rw [hx] at this; cases this
  | 1, _ =>
    have := T.kids p
    rw [hb] at this
    obtain ⟨D, ⟨es, cl, he, _⟩, _⟩ := this
    simp [World.cell?, he] at hx
  | 2, _ =>
    have := T.clis p
    rw [hb] at this
    obtain ⟨D, ⟨es, cl, he, _⟩, _⟩ := this
    simp [World.cell?, he] at hx
theorem Strs.outs {A : Option Addr} {n : Nat} {V : List (List UInt8)} {F : Nat → Prop} (h : Strs w A n V) (hU : Outs w w' F) (hA : ∀ b o, A = some ⟨b, o, none⟩ → ¬ F b) : Strs w' A n V :=
  ⟨h.1, fun hn => by
    obtain ⟨b, off, e, hc⟩ := h.2 hn
    exact ⟨b, off, e, fun j x hx => hU.cell _ _ (hc j x hx) (hA b off e)⟩⟩
theorem take_pre (V : Pth) (j : Nat) (y : List UInt8) (hy : V[j]? = some y) (x : Pth) : x <+: V.take (j + 1) ↔ x <+: V.take j ∨ x = V.take j ++ [y] := by
  rw [List.take_add_one, hy, Option.toList_some, List.prefix_concat_iff]
  exact Or.comm
set_option maxHeartbeats 1000000 in
theorem gAdd_bad (hG : Glo w) (f c : List UInt8) (hl : f.length ≤ 1000000) (hf : filB f = false) :
    Calls Tryz.prog 20 #[.pointer (some ⟨t, 0, none⟩), .string ⟨f.toArray⟩, .string ⟨c.toArray⟩] w fun e w' => e = .returned (.bool false) ∧ Below w.heap.size w w' := by
  have HG := Lib.hid hG
  have HF := Lib.hid hf
  clear hG hf
  go_enter Tryz.func20, Tryz.ntmps20
  go_wp2_with fail
  refine (tpFilter_eq f false _ HG.out (by omega) HF.out).mono ?_
  rintro e w1 ⟨rfl, hb1⟩
  go_wp2_with fail
  go_ret
  exact ⟨rfl, hb1⟩
set_option maxHeartbeats 2000000 in
set_option maxRecDepth 100000 in
theorem gAdd_ok (hG : Glo w) (hP : PTG w t G ps L) (hL : L.length ≤ 100) (hLl : ∀ x ∈ L, x.1.length ≤ 300) (f c : List UInt8) (M : List Hn) (r : Bool) (hf : f.length ≤ 300) (hc : c.length ≤ 300) (hfil : filB f = true) (hM : addL L (f, c) = M) (hr : addB L (f, c) = r) :
    Calls Tryz.prog 20 #[.pointer (some ⟨t, 0, none⟩), .string ⟨f.toArray⟩, .string ⟨c.toArray⟩] w fun e w' => GP w t G M r e w' := by
  have hpl := hP.psl hL hLl
  have hvl := levs_len f
  have HB : Hid (∀ y ∈ levs f, y.length ≤ 300) := fun y hy => Nat.le_trans (levs_bd f y hy) hf
  obtain ⟨V, hV⟩ : ∃ V, levs f = V := ⟨_, rfl⟩
  have hv0 : 0 < V.length := by rw [← hV]; exact levs_pos f
  rw [hV] at hvl HB
  have HV := Lib.hid hV
  have HG := Lib.hid hG
  have HF := Lib.hid hfil
  have HP := Lib.hid hP
  have HM := Lib.hid hM
  have HR := Lib.hid hr
  have HC : Hid (r = true ↔ ¬ G.cl V c) := by
    show _ ↔ _
    rw [hP.2.2.1, ← hr]
    unfold addB
    rw [hfil, Bool.true_and, Bool.not_eq_true', ← Bool.not_eq_true, List.contains_iff_mem]
    refine not_congr ⟨fun h => ⟨_, h, hV, rfl⟩, ?_⟩
    rintro ⟨⟨a, b⟩, hx, e1, e2⟩
    dsimp only at e1 e2
    obtain rfl := levs_inj (e1.trans hV.symm)
    subst e2
    exact hx
  clear hG hfil hV hM hr
  go_enter Tryz.func20, Tryz.ntmps20
  go_wp2_with fail
  refine (tpFilter_eq f true _ HG.out (by omega) HF.out).mono ?_
  rintro e w0 ⟨rfl, hb0⟩
  go_wp2_with fail
  refine (tpLevels_eq f V w0 (HG.out.below hb0) (by omega) HV.out).mono ?_
  rintro e w1 ⟨gl, cl, rfl, _, hsl, hb1⟩
  have hbw := below_more hb0 hb1
  have T1 : TR w1 t G _ _ := hP.1.below hbw
  have hgl : ¬ G.F gl := by
    obtain ⟨b, o, x, e, hx, hcx⟩ := hsl.at_ (k := 0) hv0
    cases e
    exact T1.no_str hcx
  have HSL := Lib.hid hsl
  have HT1 := Lib.hid T1
  have HBW := Lib.hid hbw
  have HGL := Lib.hid hgl
  clear hP hsl hb0 hb1 hgl
  go_wp2_with fail
  go_loopw [7, 9, 23] (fun n _ i wr => ∃ (j : Nat) (G1 : TG) (p1 : List Pth) (b : Nat), i = .int .i64 j ∧ j ≤ V.length ∧ n = .pointer (some ⟨b, 0, none⟩) ∧ TR wr t G1 (L.length : Nat) (p1.length : Nat) ∧ PsOk G1 p1 ∧ p1.length ≤ ps.length + j ∧ G1.cl = G.cl ∧
      (∀ x, G1.bl 0 x ≠ none ↔ G.bl 0 x ≠ none ∨ x <+: V.take j) ∧ G1.bl 0 (V.take j) = some b ∧ Outs w1 wr G.F ∧ (∀ x, G1.F x → G.F x ∨ w1.heap.size ≤ x)) (fun _ _ i _ => V.length - (intOf i).toNat)
  case atStart =>
    refine ⟨0, G, ps, t, rfl, by omega, rfl, T1, HP.out.2.1, by omega, rfl, fun x => ?_, ?_, Outs.refl _ _, fun x hx => Or.inl hx⟩
    · rw [List.take_zero]
      exact ⟨Or.inl, fun h => h.elim id (fun e => by rw [List.prefix_nil.1 e, T1.root]; simp)⟩
    · rw [List.take_zero]; exact T1.root
  case round =>
    clear T1
    obtain ⟨j, G1, p1, b, rfl, hj, rfl, hT, hP1, hp1, hcl1, hn1, hb1, hU1, hF1⟩ := hrel
    by_cases hlt : j < V.length
    · obtain ⟨bk, off, y, e9, hy, hcell⟩ := (HSL.out.outs hU1 (fun b o e => by cases e; exact HGL.out)).at_ hlt
      cases e9
      rw [Nat.zero_add] at hcell
      have hjI : (j : Int) < (V.length : Int) := by omega
      have hyl := HB.out y (List.mem_of_getElem? hy)
      have htk : V.take (j + 1) = V.take j ++ [y] := by rw [List.take_add_one, hy]; rfl
      have HTK := Lib.hid htk
      have HY := Lib.hid hy
      have HT := Lib.hid hT
      have HP1 := Lib.hid hP1
      have HB1 := Lib.hid hb1
      have HU1 := Lib.hid hU1
      have HF1 := Lib.hid hF1
      have HN1 := Lib.hid hn1
      have HCL := Lib.hid hcl1
      clear htk hT hP1 hb1 hU1 hF1 hn1 hy hcl1
      go_wp2_with fail
      refine (child_any HT.out HP1.out (by omega) HB1.out y (by omega)).mono ?_
      rintro e w2 ⟨G2, p2, b2, rfl, T2, P2, hp2, hcl2, hn2, hb2, hU2, hF2⟩
      have HT2 := Lib.hid T2
      have HP2 := Lib.hid P2
      have HC2 : Hid (G2.cl = G.cl) := hcl2.trans HCL.out
      have HB2 : Hid (G2.bl 0 (V.take (j + 1)) = some b2) := by show _ = _; rw [HTK.out]; exact hb2
      have HN2 : Hid (∀ x, G2.bl 0 x ≠ none ↔ G.bl 0 x ≠ none ∨ x <+: V.take (j + 1)) := fun x => by
        rw [hn2, HN1.out, take_pre V j y HY.out, or_assoc]
      have HU2 : Hid (Outs w1 w2 G.F) := HU1.out.trans hU2 (fun x hx h => (HF1.out x h).elim id (fun h2 => by omega))
      have HF2 : Hid (∀ x, G2.F x → G.F x ∨ w1.heap.size ≤ x) := fun x hx => by
        rcases hF2 x hx with h3 | h3
        · exact HF1.out x h3
        · have := HU1.out.size; exact Or.inr (by omega)
      have hpp : p2.length ≤ ps.length + (j + 1) := by omega
      clear T2 P2 hcl2 hn2 hb2 hU2 hF2 hcell
      go_wp2_with fail
      go_roundw
      case rel => exact ⟨j + 1, G2, p2, b2, by go_num, by omega, rfl, HT2.out, HP2.out, hpp, HC2.out, HN2.out, HB2.out, HU2.out, HF2.out⟩
      case measure => simp [intOf]; omega
    · obtain rfl : j = V.length := by omega
      have hjI : ¬ (V.length : Int) < (V.length : Int) := by omega
      rw [List.take_length] at hn1 hb1
      have HT := Lib.hid hT
      have HP1 := Lib.hid hP1
      have HB1 := Lib.hid hb1
      have HU1 := Lib.hid hU1
      have HF1 := Lib.hid hF1
      have HN1 := Lib.hid hn1
      have HCL := Lib.hid hcl1
      clear hT hP1 hb1 hU1 hF1 hn1 hcl1
      have HCG : Hid (r = true ↔ ¬ G1.cl V c) := by rw [HCL.out]; exact HC.out
      have hcl9 : ∀ p q, G1.cl p q ↔ ∃ x ∈ L, levs x.1 = p ∧ x.2 = q := fun p q => by rw [HCL.out]; exact HP.out.2.2.1 p q
      have HC9 := Lib.hid hcl9
      have HPS : ∀ p ∈ p1, (∃ x ∈ L, p <+: levs x.1) ∨ p <+: V := fun p hp => by
        obtain ⟨h1, h2⟩ := (HP1.out.2 p).1 hp
        rcases (HN1.out p).1 h2 with h3 | h3
        · exact Or.inl (HP.out.2.2.2.1 p ((HP.out.2.1.2 p).2 ⟨h1, h3⟩))
        · exact Or.inr h3
      have HPS := Lib.hid HPS
      clear hcl9
      cases r with
      | false =>
        have hcl : G1.cl V c := by
          by_cases h : G1.cl V c
          · exact h
          · exact absurd (HCG.out.2 h) (by decide)
        obtain ⟨x0, hx0, e1, e2⟩ := (HC9.out V c).1 hcl
        have hML : M = L := by rw [← HM.out]; unfold addL; rw [HR.out]; rfl
        have HCL1 := Lib.hid hcl
        have HX : Hid (∃ x ∈ L, levs x.1 = V) := ⟨x0, hx0, e1⟩
        clear hcl hx0 e1 e2
        go_wp2_with fail
        refine (nAdd_no HT.out HB1.out c (by unfold maxLen; omega) HCL1.out).mono ?_
        rintro e w2 ⟨rfl, hb2⟩
        go_wp2_with fail
        go_ret
        refine ⟨G1, p1, rfl, ?_, ((Outs.of_below HBW.out).trans HU1.out (fun _ _ h => h)).more hb2, fun x hx => ?_⟩
        · rw [hML]
          refine ⟨HT.out.below hb2, HP1.out, HC9.out, fun p hp => ?_, HP.out.2.2.2.2⟩
          rcases HPS.out p hp with h | h
          · exact h
          · obtain ⟨x, hx, e⟩ := HX.out
            exact ⟨x, hx, by rw [e]; exact h⟩
        · rcases HF1.out x hx with h | h
          · exact Or.inl h
          · exact Or.inr (by have := HBW.out.size; omega)
      | true =>
        have hcl := HCG.out.1 rfl
        have hML : M = insO ahB (f, c) L := by rw [← HM.out]; unfold addL; rw [HR.out]; rfl
        have HML := Lib.hid hML
        have HCL1 := Lib.hid hcl
        have hks : ∀ x, G1.cl V x → x ∈ L.map (·.2) := fun x hx => by
          obtain ⟨y, hy, _, rfl⟩ := (HC9.out V x).1 hx
          exact List.mem_map.2 ⟨y, hy, rfl⟩
        have HKS := Lib.hid hks
        clear hcl hML hks
        go_wp2_with fail
        refine (nAdd_yes HT.out HB1.out c (by omega) HCL1.out (L.map (·.2)) HKS.out (by rw [List.length_map]; omega)).mono ?_
        rintro e w2 ⟨G2, rfl, T2, hb2, hc2, hU2, hF2⟩
        have hh := T2.hc
        have hff := (T2.cell [] t T2.root).2.2 2
        have hwr : IntKind.i64.wrap ((L.length : Int) + 1) = (L.length : Int) + 1 := IntWalk.i64_in _ (by omega)
        have T3 := T2.hin ((L.length : Int) + 1)
        have HT3 := Lib.hid T3
        have HB2 := Lib.hid hb2
        have HC2 := Lib.hid hc2
        have HU2 := Lib.hid hU2
        have HF2 := Lib.hid hF2
        clear T2 T3 hb2 hc2 hU2 hF2
        go_wp2_with fail
        go_ret
        refine ⟨G2, p1, rfl, ⟨?_, ⟨HP1.out.1, fun p => by rw [HB2.out]; exact HP1.out.2 p⟩, fun p q => ?_, fun p hp => ?_, fun x hx => ?_⟩, ?_, fun x hx => ?_⟩
        · rw [HML.out, ins_len]
          exact HT3.out
        · rw [HC2.out, HC9.out, HML.out]
          constructor
          · rintro (⟨x, hx, e1, e2⟩ | ⟨rfl, rfl⟩)
            · exact ⟨x, (ins_mem _ _ _).2 (Or.inr hx), e1, e2⟩
            · exact ⟨(f, q), (ins_mem _ _ _).2 (Or.inl rfl), HV.out, rfl⟩
          · rintro ⟨x, hx, e1, e2⟩
            rcases (ins_mem _ _ _).1 hx with rfl | hx
            · exact Or.inr ⟨by rw [← e1]; exact HV.out, e2.symm⟩
            · exact Or.inl ⟨x, hx, e1, e2⟩
        · rw [HML.out]
          rcases HPS.out p hp with ⟨x, hx, h⟩ | h
          · exact ⟨x, (ins_mem _ _ _).2 (Or.inr hx), h⟩
          · exact ⟨(f, c), (ins_mem _ _ _).2 (Or.inl rfl), by show _ <+: levs f; rw [HV.out]; exact h⟩
        · rw [HML.out] at hx
          rcases (ins_mem _ _ _).1 hx with rfl | hx
          · exact HF.out
          · exact HP.out.2.2.2.2 x hx
        · refine Outs.setCell ?_ t 2 HT1.out.fr _
          exact ((Outs.of_below HBW.out).trans HU1.out (fun _ _ h => h)).trans HU2.out (fun x hx h => (HF1.out x h).elim id (fun h2 => by have := HBW.out.size; omega))
        · rcases HF2.out x hx with h | h
          · rcases HF1.out x h with h | h
            · exact Or.inl h
            · exact Or.inr (by have := HBW.out.size; omega)
          · exact Or.inr (by have := HBW.out.size; have := HU1.out.size; omega)
theorem gAdd_any (hG : Glo w) (hP : PTG w t G ps L) (hL : L.length ≤ 100) (hLl : ∀ x ∈ L, x.1.length ≤ 300) (f c : List UInt8) (M : List Hn) (r : Bool) (hf : f.length ≤ 300) (hc : c.length ≤ 300) (hM : addL L (f, c) = M) (hr : addB L (f, c) = r) :
    Calls Tryz.prog 20 #[.pointer (some ⟨t, 0, none⟩), .string ⟨f.toArray⟩, .string ⟨c.toArray⟩] w fun e w' => GP w t G M r e w' := by
  cases hfil : filB f with
  | true => exact gAdd_ok hG hP hL hLl f c M r hf hc hfil hM hr
  | false =>
    have e1 : addB L (f, c) = false := by unfold addB; rw [hfil]; rfl
    have e2 : addL L (f, c) = L := by unfold addL; rw [e1]; rfl
    rw [e1] at hr; rw [e2] at hM
    subst hr hM
    refine (gAdd_bad hG f c (by omega) hfil).mono ?_
    rintro e w1 ⟨rfl, hb⟩
    exact ⟨G, ps, rfl, hP.keep fun b hb1 => hb.block b (hP.1.lt b hb1), Outs.of_below hb, fun x hx => Or.inl hx⟩
end
end Go.Proofs.YtipdmfnkkkdlbaaGreatDoor
namespace Go.Proofs.YtipdmfnkkkdlbaaGreatDoor
open Go.RowKit Go.Maps

theorem wpList_upd {P : Program} {ops : Array Oper} {rest : List Oper} {o : Oper} {a : Act} {Q : Exit → Act → World → Prop} {w w' : World} (hgd : o.guard = none) (t : TypeId) (m x v : Operand) (ho : o.op = Op.mapUpdate t m x v) {mv kv vv : Value} (hm : a.eval m = mv) (hx : a.eval x = kv) (hv : a.eval v = vv)
    (hrun : (Instr.mapUpdate t mv kv vv).run P w = .ok () w') (h : wpList P ops Q rest (a.put o.dst undef) w') : wpList P ops Q (o :: rest) a w := by
  refine wpList_plain hgd fun K' hK' => ?_
  unfold Oper.wp
  simp [execOp, ho, hm, hx, hv, hrun, Result.andThen]
  exact hK' _ _ h
section
variable {w w' : World}
theorem ranges_keep {H : Type} {R : Value → Option (DataW H × List MemPlace)} {b r n : Nat} {D : DataW H} {left : Lit → Bool} {cnt : Nat} (h : w.ranges Tryz.prog 9 R b r n D left cnt) (e1 : w'.heap[b]? = w.heap[b]?) (e2 : w'.heap[r]? = w.heap[r]?) : w'.ranges Tryz.prog 9 R b r n D left cnt := by
  obtain ⟨es, clock, since, seen, c0, hb, F, hs, hD, hr, rest⟩ := h
  exact ⟨es, clock, since, seen, c0, e1.trans hb, F, hs, hD, e2.trans hr, rest⟩
theorem grown_outs {w' : World} {F : Nat → Prop} {row : Option Nat} (h : w.grownBy w' row) (hF : ∀ b, row = some b → b < w.heap.size → F b) : Outs w w' F :=
  ⟨h.os, h.tape, h.output, h.size, fun b hb hn => h.block b hb (fun e => hn (hF b e.symm hb))⟩
set_option maxHeartbeats 4000000 in
set_option maxRecDepth 100000 in
theorem copy_some (bd bs : Nat) (s1 s2 : List UInt8 → Prop) (hd : CM w bd s1) (hs : CM w bs s2) (hne : bd ≠ bs) (ks : List (List UInt8)) (hk1 : ∀ c, s1 c → c ∈ ks) (hk2 : ∀ c, s2 c → c ∈ ks) (hkl : ks.length ≤ 1000000) :
    Calls Tryz.prog 44 #[.map (some bd), .map (some bs)] w fun e w' => e = .returned (.tuple #[]) ∧ CM w' bd (fun c => s1 c ∨ s2 c) ∧ Outs w w' (fun x => x = bd) := by
  have hbd := hd.lt
  have HD := Lib.hid hd
  have HK1 := Lib.hid hk1
  have HK2 := Lib.hid hk2
  obtain ⟨D, hown, hhas⟩ := hs
  have hbs := hown.lt
  have HH := Lib.hid hhas
  clear hhas hd hk1 hk2
  go_enter Tryz.func44, Tryz.ntmps44
  go_wp2_with (first
    | (at_range; refine wpList_range_own _ rfl _ 51 rfl 9 65 kS Tryz.underlying51 unitElem bs (Maps.size D) D rfl hown ?_; intro w0 hrg0 hg0 hs0)
    | go_in)
  go_frame
  have hU0 : Outs w w0 (fun x => x = bd) := grown_outs hg0 (fun b e => by cases e)
  have HD0 : Hid (CM w0 bd s1) := HD.out.keep (hg0.block bd hbd (by simp))
  go_loopw [4, 5, 8] (fun _ _ _ wr => ∃ (left : Lit → Bool) (cnt : Nat), wr.ranges Tryz.prog 9 unitElem bs w.heap.size (Maps.size D) D left cnt ∧ CM wr bd (fun c => s1 c ∨ (s2 c ∧ left (.string c) = false)) ∧ Outs w wr (fun x => x = bd)) (fun _ _ _ wr => wr.rangeLeft bs w.heap.size)
  case atStart =>
    refine ⟨_, _, hrg0, HD0.out.congr fun c => ⟨Or.inl, fun h => h.elim id (fun h2 => ?_)⟩, hU0⟩
    rw [(HH.out c).2 h2.1] at h2
    cases h2.2
  case round =>
    clear hrg0 hg0 hs0 hU0 HD0
    obtain ⟨left, cnt, hrg, hC, hU⟩ := hrel
    have HC := Lib.hid hC
    have HU := Lib.hid hU
    clear hC hU
    go_wp2_with (first
      | (at_next; refine wpList_next_ranges _ rfl _ rfl 9 kS unitElem encStr (fun _ : Unit => Value.agg #[]) (fun key kl hk => by obtain ⟨x, hx, _⟩ := Maps.keyOf_str Tryz.underlying9 hk; exact ⟨x, hx⟩) (fun v y hv => ⟨(), (unitElem_inv hv).1⟩) bs w.heap.size _ _ _ _ rfl hrg ?_ ?_)
      | go_in)
    · intro hc0 hl0
      go_wp2
      go_end0
      exact ⟨rfl, HC.out.congr fun c => by simp [hl0], HU.out⟩
    · intro x kl yd yp w1 cnt1 hkey hlx hv hat hrg1 hlt hg1 hs1 hen
      obtain ⟨x', ex, rfl, hxl⟩ := Maps.keyOf_str Tryz.underlying9 hkey
      obtain rfl : x = x' := encStr_inj ex
      clear ex
      have hx2 : s2 x := (HH.out x).1 (Maps.has_true_of_atKey (y := yd) hat)
      have hsz := HU.out.size
      have hC1 : CM (w1.alloc (.cells #[] 65)) bd (fun c => s1 c ∨ (s2 c ∧ left (.string c) = false)) := by
        refine (HC.out.keep (hg1.block bd (HC.out.lt) (fun e => ?_))).keep (by rw [Below.heap_alloc]; have := HC.out.lt; omega)
        have := Option.some.inj e
        omega
      obtain ⟨w2, hrun, hC2, ht2⟩ := CM.store hC1 ks (fun c hc => hc.elim (HK1.out c) (fun h => HK2.out c h.1)) (by unfold maxLen; omega) (l := x) hxl
      have hrg2 : w2.ranges Tryz.prog 9 unitElem bs w.heap.size (Maps.size D) D (fun z => left z && !z.sameKey (.string x)) cnt1 := by
        have hlr := hrg1.lt
        have hlb := hrg1.owns.lt
        refine ranges_keep (ranges_keep hrg1 (w' := w1.alloc (.cells #[] 65)) (Below.heap_alloc _ _ _ hlb) (Below.heap_alloc _ _ _ hlr)) (turned_block ht2 _ (fun e => hne e.symm)) (turned_block ht2 _ (fun e => by omega))
      have hU2 : Outs w w2 (fun x => x = bd) := by
        refine ((HU.out.trans (grown_outs (F := fun x => x = w.heap.size) hg1 (fun b e _ => (Option.some.inj e).symm)) (fun b hb e => by omega)).more (below_alloc (Below.refl _ _) _)).trans (turned_outs (F := fun x => x = bd) ht2 rfl) (fun _ _ h => h)
      have HC3 : Hid (CM w2 bd (fun c => s1 c ∨ (s2 c ∧ (left (.string c) && !(Lit.string c).sameKey (.string x)) = false))) := hC2.congr fun c => by
        rw [key_same]
        by_cases hcx : c = x
        · subst hcx; simp [hx2]
        · simp [hcx]
      have HRG := Lib.hid hrg2
      have HU2 := Lib.hid hU2
      have HRun := Lib.hid hrun
      clear hC1 hC2 hrun hrg2 hU2 hs1 hkey hat hv hg1 ht2 hrg1
      go_wp2_with (at_mapUpdate; refine wpList_upd rfl _ _ _ _ rfl rfl rfl rfl HRun.out ?_; go_frame)
      go_wp2_with fail
      go_roundw
      case rel => exact ⟨_, cnt1, HRG.out, HC3.out, HU2.out⟩
      case measure => rw [HRG.out.left_eq, hrg.left_eq]; exact hlt
set_option maxHeartbeats 2000000 in
theorem copy_nil (pd : Option Nat) (w : World) :
    Calls Tryz.prog 44 #[.map pd, .map none] w fun e w' => e = .returned (.tuple #[]) ∧ w' = w.alloc (.mapIter none 0 #[] 0) := by
  have hrg := run_range_nilMap (P := Tryz.prog) w 51 _ _ Tryz.underlying51
  have hnx : ∀ ty, (Instr.next (.pointer (some ⟨w.heap.size, 0, none⟩)) false ty).run Tryz.prog (w.alloc (.mapIter none 0 #[] 0)) = _ := fun ty => run_next_nilMap _ ty 0 0 #[]
  go_enter Tryz.func44, Tryz.ntmps44
  go_wp2
  refine wp_loop_rounds 1 ?_
  rw [rounds_succ]
  go_wp2
  go_end0
  exact ⟨rfl, rfl⟩
theorem copy_any (bd : Nat) (o : Option Nat) (s1 s2 : List UInt8 → Prop) (hd : CM w bd s1) (hs : MCo w o s2) (hne : o ≠ some bd) (ks : List (List UInt8)) (hk1 : ∀ c, s1 c → c ∈ ks) (hk2 : ∀ c, s2 c → c ∈ ks) (hkl : ks.length ≤ 1000000) :
    Calls Tryz.prog 44 #[.map (some bd), .map o] w fun e w' => e = .returned (.tuple #[]) ∧ CM w' bd (fun c => s1 c ∨ s2 c) ∧ Outs w w' (fun x => x = bd) := by
  cases o with
  | some bs => exact copy_some bd bs s1 s2 hd hs (fun e => hne (by rw [e])) ks hk1 hk2 hkl
  | none =>
    refine (copy_nil (some bd) w).mono ?_
    rintro e w1 ⟨rfl, rfl⟩
    exact ⟨rfl, (hd.keep (Below.heap_alloc _ _ _ hd.lt)).congr fun c => ⟨Or.inl, fun h => h.elim id (fun h2 => absurd h2 (hs c))⟩, Outs.of_below (below_alloc (Below.refl _ _) _)⟩
end
end Go.Proofs.YtipdmfnkkkdlbaaGreatDoor
