/-
  trie: what the two visits gather: the hints of a node; the filters of a client.
-/
import Derived.Test.YtipdmfnkkkdlbaaGreatDoorTgWalk
import Derived.Test.YtipdmfnkkkdlbaaGreatDoorTgTree
import Derived.Test.YtipdmfnkkkdlbaaGreatDoorTpTop
set_option linter.unusedSimpArgs false
set_option linter.unusedVariables false
namespace Go.Proofs.YtipdmfnkkkdlbaaGreatDoor
section
open Go.RowKit
def oTgVis1 : Oper := ({ dst := some 9, op := Go.Op.load 36 (Go.Operand.tmp 3), type := 36, pos := "trie.go:112", after := #[], guard := none } : Oper)
def oTgVis2 : Oper := ({ dst := some 10, op := Go.Op.move (Go.Operand.tmp 0), type := 36, pos := "trie.go:112", after := #[], guard := none } : Oper)
def oTgVis3 : Oper := ({ dst := some 11, op := Go.Op.call { callee := Go.Callee.value (Go.Operand.func 34), args := #[Go.Operand.tmp 10], argTypes := #[36] }, type := 9, pos := "trie.go:112", after := #[{ on := 1, ground := Go.Ground.data }], guard := none } : Oper)
def oTgVis4 : Oper := ({ dst := some 12, op := Go.Op.buildSlice 36 1 #[(0, Go.Operand.tmp 11)], type := 36, pos := "trie.go:112", after := #[{ on := 2, ground := Go.Ground.data }], guard := none } : Oper)
def oTgVis5 : Oper := ({ dst := some 13, op := Go.Op.call { callee := Go.Callee.builtin Go.Builtin.append, args := #[Go.Operand.tmp 9, Go.Operand.tmp 12], argTypes := #[36, 36] }, type := 36, pos := "trie.go:112", after := #[{ on := 0, ground := Go.Ground.data }, { on := 3, ground := Go.Ground.data }, { on := 2, ground := Go.Ground.chain }], guard := none } : Oper)
def oTgVis6 : Oper := ({ dst := none, op := Go.Op.store 36 (Go.Operand.tmp 3) (Go.Operand.tmp 13), type := 0, pos := "trie.go:112", after := #[{ on := 4, ground := Go.Ground.data }, { on := 4, ground := Go.Ground.chain }, { on := 0, ground := Go.Ground.phase }, { on := 1, ground := Go.Ground.phase }, { on := 2, ground := Go.Ground.phase }, { on := 3, ground := Go.Ground.phase }, { on := 4, ground := Go.Ground.phase }], guard := none } : Oper)
end
open Go.RowKit Go.Maps

section
variable {P : Program} {ops : Array Oper} {rest : List Oper} {o : Oper} {a : Act} {Q : Exit → Act → World → Prop} {w w' : World}
theorem wpList_bapp (hgd : o.guard = none) (t : TypeId) (s x : Operand) (ho : o.op = .call { callee := .builtin .append, args := #[s, x], argTypes := #[t, t] }) {sv xv v' : Value} (hs : a.eval s = sv) (hx : a.eval x = xv)
    (hrun : (Builtin.append_ #[t, t] o.type #[sv, xv]).run P w = .ok v' w') (h : wpList P ops Q rest (a.put o.dst v') w') : wpList P ops Q (o :: rest) a w := by
  refine wpList_plain hgd fun K' hK' => ?_
  unfold Oper.wp
  simp [execOp, ho, resolve, invoke, builtin, hs, hx, hrun, Result.andThen]
  exact hK' _ _ h
end
theorem row_shape {w : World} {B : Nat} {E : TypeId} {sz n : Nat} {v : Value} {xs : List Value} (h : w.ownsRow B E sz v n xs) : ∃ A c, v = .slice A n c ∧ (∀ b, v.ownBlock = some b ↔ A = some ⟨b, 0, none⟩) := by
  rcases h.2 with ⟨rfl, hn⟩ | ⟨g, cap, cur, rfl, _⟩
  · exact ⟨none, 0, by rw [hn], fun b => by simp [Value.ownBlock]⟩
  · exact ⟨_, cap, rfl, fun b => by simp [Value.ownBlock]⟩
theorem row_keep {w w' : World} {B : Nat} {E : TypeId} {sz n : Nat} {v : Value} {xs : List Value} (h : w.ownsRow B E sz v n xs) (e : ∀ b, v.ownBlock = some b → w'.heap[b]? = w.heap[b]?) : w'.ownsRow B E sz v n xs := by
  refine ⟨h.1, ?_⟩
  rcases h.2 with h2 | ⟨g, cap, cur, rfl, hB, hg, r⟩
  · exact Or.inl h2
  · exact Or.inr ⟨g, cap, cur, rfl, hB, (e g rfl).trans hg, r⟩
/-! All. -/
def AccA (BA pl : Nat) (w : World) (X : List Hn) (R : Nat → Prop) : Prop :=
  ∃ v, w.cell? ⟨pl, 0, none⟩ = some v ∧ w.frozen? ⟨pl, 0, none⟩ = false ∧ w.ownsRow BA 40 2 v X.length (flatH X) ∧ v.ownBlock ≠ some pl ∧ ∀ x, R x ↔ (x = pl ∨ v.ownBlock = some x)
theorem accA_ok (BA pl : Nat) : AccOk (AccA BA pl) where
  lt w X R h b hb := by
    obtain ⟨v, h1, _, h3, _, h5⟩ := h
    rcases (h5 b).1 hb with rfl | h6
    · exact World.block_lt_of_cell? _ _ h1
    · exact (World.ownsRow.lt h3 b h6).2
  keep w w' X R h e := by
    obtain ⟨v, h1, h2, h3, h4, h5⟩ := h
    have hp := e pl ((h5 pl).2 (Or.inl rfl))
    exact ⟨v, (World.cell?_of_block hp).trans h1, (World.frozen?_of_block hp).trans h2, row_keep h3 (fun b hb => e b ((h5 b).2 (Or.inr hb))), h4, h5⟩
theorem hint_append {w : World} {B : Nat} {v : Value} {X : List Hn} (h : w.ownsRow B 40 2 v X.length (flatH X)) (hB : B ≤ w.heap.size) (q : Nat) (y : Hn) (h1 : w.cell? ⟨q, 0, none⟩ = some (.string ⟨y.1.toArray⟩)) (h2 : w.cell? ⟨q, 1, none⟩ = some (.string ⟨y.2.toArray⟩)) (hX : X.length ≤ 1000000) (ty : TypeId) :
    ∃ A' c' w', (Builtin.append_ #[28, 28] ty #[v, .slice (some ⟨q, 0, none⟩) 1 1]).run Tryz.prog w = .ok (.slice A' (X.length + 1) c') w' ∧ w'.ownsRow B 40 2 (.slice A' (X.length + 1) c') (X ++ [y]).length (flatH (X ++ [y])) ∧ w.grownBy w' v.ownBlock ∧ ((Value.slice A' (X.length + 1) c').ownBlock = v.ownBlock ∨ (Value.slice A' (X.length + 1) c').ownBlock = some w.heap.size) := by
  obtain ⟨i, hi, hz0, hz1, hz2⟩ := info_parts hint_info
  have hnews : ∀ (j : Nat) (u : Value), (flatH [y])[j]? = some u → w.cell? ((⟨q, 0, none⟩ : Addr).add j) = some u := by
    intro j u hu
    have hadd : ∀ j, (⟨q, 0, none⟩ : Addr).add j = ⟨q, 0 + j, none⟩ := fun j => by unfold Addr.add; split <;> simp_all
    rw [hadd, Nat.zero_add]
    match j, hu with
    | 0, hu => simp [flatH, htV] at hu; subst hu; exact h1
    | 1, hu => simp [flatH, htV] at hu; subst hu; exact h2
    | j + 2, hu => simp [flatH, htV] at hu
  obtain ⟨v', w', hr, ho, hg, _, hat⟩ := run_append_own_at (P := Tryz.prog) w B 28 ty 40 i _ 2 32 Tryz.underlying28 hi hz0 hz1 hz2 rfl (by decide) v X.length _ h ⟨q, 0, none⟩ 1 1 (flatH [y]) (flatH_len [y]) hnews (flatH_one [y]) (by unfold maxLen; omega) (by omega) hB
  obtain ⟨A', c', rfl, _⟩ := row_shape ho
  refine ⟨A', c', w', hr, ?_, hg, hat⟩
  rw [flatH_app]
  have : (X ++ [y]).length = X.length + 1 := by simp
  rw [this]
  exact ho
def ownA (G : TG) (p : Pth) (y : Hn) : Prop := G.cl p y.2 ∧ y.1 = joinL p
section
variable {t : Nat} {G : TG} {h ii : Int}
set_option maxHeartbeats 8000000 in
set_option maxRecDepth 100000 in
theorem visA (B BA pl : Nat) (hBA : BA ≤ pl) (Z : List Hn) (hZ : Z.length ≤ 1000) (hoz : ∀ p y, ownA G p y → y ∈ Z) (hjl : ∀ p c, G.cl p c → (joinL p).length ≤ 1000) : VisOkAll (AccA BA pl) (ownA G) G t h ii B Z pl := by
  intro w p b v X R PX hp hT hA hG hdis hPZ hB hL hp1 hRF hRv
  obtain ⟨c0, c1, _⟩ := hT.cell p b hp
  obtain ⟨n1, e1, z1⟩ := (hT.clis p).len
  obtain ⟨AL, cL, rfl, hLc, hLs, hL0, hLb⟩ := hL.strs
  have HA := Lib.hid hA
  have HT := Lib.hid hT
  have HG := Lib.hid hG
  have HLS := Lib.hid hLs
  have hck := hT.clis p
  have HCK := Lib.hid hck
  have HZ1 := Lib.hid z1
  clear hA hT hG hL hLs hck z1
  by_cases h0 : n1 = 0
  · have hd : ((n1 : Int) == 0) = true := by rw [h0]; rfl
    have hno := HZ1.out.1 h0
    have HNO := Lib.hid hno
    clear h0 hno
    go_enter Tryz.func33, Tryz.ntmps33
    go_wp2_with fail
    (first | go_end0 | refine bodyPost_ret (results_none rfl _ _ _) rfl ?_)
    exact ⟨X, R, rfl, HA.out, HG.out.congr fun y => ⟨Or.inl, fun h => h.elim id (fun h => absurd h.1 (HNO.out _))⟩, Outs.refl _ _, fun x hx => Or.inl hx⟩
  · have hd : ((n1 : Int) == 0) = false := by simp; omega
    obtain ⟨cx, hcx⟩ : ∃ c, G.cl p c := by
      by_cases he : ∃ c, G.cl p c
      · exact he
      · exact absurd (HZ1.out.2 (fun c hc => he ⟨c, hc⟩)) h0
    have hjp := hjl p cx hcx
    obtain ⟨F, hF⟩ : ∃ F, joinL p = F := ⟨_, rfl⟩
    rw [hF] at hjp
    have HF := Lib.hid hF
    cases h2 : G.bl 2 p with
    | none =>
      have hcc := HCK.out
      rw [h2] at hcc
      exact absurd hcx (hcc cx)
    | some mm =>
      have hcc := HCK.out
      rw [h2] at hcc c1 e1
      obtain ⟨D, hown, hhas⟩ := hcc
      have HH := Lib.hid hhas
      have hmF : G.F mm := ⟨2, p, h2⟩
      have hmR : ¬ R mm := fun h => hRF _ h hmF
      have hbR : ¬ R b := fun h => hRF _ h ⟨0, p, hp⟩
      have hlen1 := e1 3
      clear hhas hF h0 h2 hcx
      go_enter Tryz.func33, Tryz.ntmps33
      go_wp2_with fail
      refine (tpJoin_eq AL p.length cL p F w HLS.out hLc (by omega) (by omega) HF.out).mono ?_
      rintro e w1 ⟨rfl, hb1⟩
      have c11 := (hb1.cell (World.block_lt_of_cell? _ _ c1)).trans c1
      have hown1 := own_keep (w' := w1) hown (hb1.block mm hown.lt)
      have HB1 := Lib.hid hb1
      clear hb1 e1 hlen1 hown
      go_wp2_with (first
        | (at_range; refine wpList_range_own _ rfl _ 51 rfl 9 65 kS Tryz.underlying51 unitElem mm (Maps.size D) D rfl hown1 ?_; intro w0 hrg0 hg0 hs0)
        | go_in)
      go_frame
      have HRG := Lib.hid hrg0
      have HG0 := Lib.hid hg0
      have HS0 := Lib.hid hs0
      have HO1 := Lib.hid hown1
      clear hrg0 hg0 hs0 hown1
      go_loopw [6, 20] (fun _ _ wr => ∃ (left : Lit → Bool) (cnt : Nat) (X2 : List Hn) (R2 : Nat → Prop), wr.ranges Tryz.prog 9 unitElem mm w1.heap.size (Maps.size D) D left cnt ∧ AccA BA pl wr X2 R2 ∧ GoodY X2 (fun y => PX y ∨ (G.cl p y.2 ∧ left (.string y.2) = false ∧ y.1 = F)) ∧
          Outs w wr R ∧ (∀ x, R2 x → R x ∨ w0.heap.size ≤ x) ∧ w0.heap.size ≤ wr.heap.size) (fun _ _ wr => wr.rangeLeft mm w1.heap.size)
      case atStart =>
        have hb0 : Below w.heap.size w w0 := below_more HB1.out ⟨HG0.out.os, HG0.out.tape, HG0.out.output, HG0.out.size, fun b hb => HG0.out.block b hb (by simp)⟩
        refine ⟨_, _, X, R, HRG.out, (accA_ok BA pl).keep _ _ _ _ HA.out (fun x hx => hb0.block x ((accA_ok BA pl).lt _ _ _ HA.out x hx)), HG.out.congr fun y => ⟨Or.inl, fun hh => hh.elim id (fun hh => ?_)⟩, Outs.of_below hb0, fun x hx => Or.inl hx, Nat.le_refl _⟩
        rw [(HH.out _).2 hh.1] at hh
        cases hh.2.1
      case round =>
        obtain ⟨left, cnt, X2, R2, hrg, hA2, hG2, hU2, hR2, hsz2⟩ := hrel
        have HA2 := Lib.hid hA2
        have HG2 := Lib.hid hG2
        have HU2 := Lib.hid hU2
        have HR2 := Lib.hid hR2
        clear hA2 hG2 hU2 hR2
        go_wp2_with (first
          | (at_next; refine wpList_next_ranges _ rfl _ rfl 9 kS unitElem encStr (fun _ : Unit => Value.agg #[]) (fun key kl hk => by obtain ⟨x, hx, _⟩ := Maps.keyOf_str Tryz.underlying9 hk; exact ⟨x, hx⟩) (fun v y hv => ⟨(), (unitElem_inv hv).1⟩) mm w1.heap.size _ _ _ _ rfl hrg ?_ ?_)
          | go_in)
        · intro hc0 hl0
          go_wp2
          (first | go_end0 | refine bodyPost_ret (results_none rfl _ _ _) rfl ?_)
          have hs9 := HS0.out
          have hs8 := HB1.out.size
          refine ⟨X2, R2, rfl, HA2.out, HG2.out.congr fun y => ?_, HU2.out, fun x hx => (HR2.out x hx).imp id (fun h => by omega)⟩
          unfold ownA
          rw [HF.out]
          simp [hl0]
        · intro x kl yd yp w2 cnt2 hkey hlx hv hat hrg2 hlt hg2 hs2 hen
          obtain ⟨x', ex, rfl, hxl⟩ := Maps.keyOf_str Tryz.underlying9 hkey
          obtain rfl : x = x' := encStr_inj ex
          clear ex
          have hclx : G.cl p x := (HH.out x).1 (Maps.has_true_of_atKey (y := yd) hat)
          have hs9 := HS0.out
          have hs8 := HB1.out.size
          have hR2lt : ∀ y, R2 y → y < wr.heap.size := (accA_ok BA pl).lt _ _ _ HA2.out
          have hR2r : ∀ y, R2 y → y ≠ w1.heap.size := fun y hy e => by
            rcases HR2.out y hy with h3 | h3
            · have := (accA_ok BA pl).lt _ _ _ HA.out y h3; omega
            · omega
          have hR2m : ¬ R2 mm := fun hy => by
            rcases HR2.out mm hy with h3 | h3
            · exact hmR h3
            · have := HO1.out.lt; omega
          have A2 : AccA BA pl w2 X2 R2 := (accA_ok BA pl).keep _ _ _ _ HA2.out (fun y hy => hg2.block y (hR2lt y hy) (fun e => hR2r y hy (Option.some.inj e)))
          have hlenX : X2.length ≤ 1000 := Nat.le_trans (HG2.out.len (Z := Z) (fun y hy => hy.elim (hPZ y) (fun hy => hoz p y ⟨hy.1, by rw [HF.out]; exact hy.2.2⟩))) hZ
          obtain ⟨v2, q1, q2, q3, q4, q5⟩ := A2
          obtain ⟨A3, c3, rfl, hown3⟩ := row_shape q3
          have hltp : pl < w2.heap.size := World.block_lt_of_cell? _ _ q1
          have hbW : Below w2.heap.size w2 (w2.alloc (.cells #[.string ⟨F.toArray⟩, .string ⟨x.toArray⟩] 40)) := below_alloc (Below.refl _ _) _
          obtain ⟨A4, c4, w4, hrun, q6, q7, q8⟩ := hint_append (row_keep q3 (fun g hg => hbW.block g (World.ownsRow.lt q3 g hg).2)) (by simp; omega) w2.heap.size (F, x) (by rw [World.cell?_alloc_new]; rfl) (by rw [World.cell?_alloc_new]; rfl) (by omega) 0
          have hU24 : Outs w2 w4 (fun y => (Value.slice A3 X2.length c3).ownBlock = some y) := (Outs.of_below hbW).trans (grown_outs (F := fun y => (Value.slice A3 X2.length c3).ownBlock = some y) q7 (fun b e _ => e)) (fun _ _ h => h)
          have q14 : w4.cell? ⟨pl, 0, none⟩ = some (.slice A3 X2.length c3) := hU24.cell _ _ q1 q4
          have q24 : w4.frozen? ⟨pl, 0, none⟩ = false := (World.frozen?_of_block (hU24.block pl hltp q4)).trans q2
          have hq8 : (Value.slice A4 (X2.length + 1) c4).ownBlock ≠ some pl := fun e => by
            rcases q8 with h3 | h3
            · rw [h3] at e; exact q4 e
            · rw [h3] at e
              have := Option.some.inj e
              simp at this
              omega
          have hne4 : ∀ g, (Value.slice A4 (X2.length + 1) c4).ownBlock = some g → g ≠ pl := fun g hg e => hq8 (by rw [hg, e])
          have A5 : AccA BA pl (w4.setCell ⟨pl, 0, none⟩ (.slice A4 (X2.length + 1) c4)) (X2 ++ [(F, x)]) (fun y => y = pl ∨ (Value.slice A4 (X2.length + 1) c4).ownBlock = some y) :=
            ⟨_, World.cell?_setCell_same _ _ _ q14, by rw [World.frozen?_setCell]; exact q24, row_keep q6 (fun g hg => heap_setCell_other _ _ _ _ (hne4 g hg)), hq8, fun y => Iff.rfl⟩
          have hU25 : Outs w2 (w4.setCell ⟨pl, 0, none⟩ (.slice A4 (X2.length + 1) c4)) R2 := (hU24.mono (fun y _ hy => (q5 y).2 (Or.inr hy))).setCell pl 0 ((q5 pl).2 (Or.inl rfl)) _
          have hU35 : Outs wr (w4.setCell ⟨pl, 0, none⟩ (.slice A4 (X2.length + 1) c4)) (fun y => R2 y ∨ y = w1.heap.size) := (grown_outs (F := fun y => R2 y ∨ y = w1.heap.size) hg2 (fun b e _ => Or.inr (Option.some.inj e).symm)).trans hU25 (fun y _ hy => Or.inl hy)
          have HU5 : Hid (Outs w (w4.setCell ⟨pl, 0, none⟩ (.slice A4 (X2.length + 1) c4)) R) := HU2.out.trans hU35 (fun y hy hr => hr.elim (fun h3 => (HR2.out y h3).elim id (fun h4 => by omega)) (fun h3 => by omega))
          have HRG5 := Lib.hid (ranges_keep hrg2 (hU25.block mm hrg2.owns.lt hR2m) (hU25.block w1.heap.size hrg2.lt (fun h3 => hR2r _ h3 rfl)))
          have HA5 := Lib.hid A5
          have HR5 : Hid (∀ y, (y = pl ∨ (Value.slice A4 (X2.length + 1) c4).ownBlock = some y) → R y ∨ w0.heap.size ≤ y) := fun y hy => by
            rcases hy with rfl | hy
            · exact HR2.out y ((q5 y).2 (Or.inl rfl))
            · rcases q8 with h3 | h3
              · rw [hy] at h3; exact HR2.out y ((q5 y).2 (Or.inr h3.symm))
              · rw [hy] at h3
                have := Option.some.inj h3
                simp at this
                exact Or.inr (by omega)
          have HSZ : Hid (w0.heap.size ≤ (w4.setCell ⟨pl, 0, none⟩ (.slice A4 (X2.length + 1) c4)).heap.size) := by have := hU25.size; show _ ≤ _; omega
          have HG5 : Hid (GoodY (X2 ++ [(F, x)]) (fun y => PX y ∨ (G.cl p y.2 ∧ (left (.string y.2) && !(Lit.string y.2).sameKey (.string x)) = false ∧ y.1 = F))) := by
            refine (HG2.out.app (GoodY.one (F, x)) ?_).congr ?_
            · rintro y hy rfl
              rcases hy with h3 | h3
              · exact hdis _ h3 ⟨hclx, by rw [HF.out]⟩
              · rw [hlx] at h3; cases h3.2.1
            · intro y
              rw [key_same]
              by_cases hyx : y.2 = x
              · constructor
                · rintro ((h3 | h3) | rfl)
                  · exact Or.inl h3
                  · exact Or.inr ⟨h3.1, by simp [hyx], h3.2.2⟩
                  · exact Or.inr ⟨hclx, by simp, rfl⟩
                · rintro (h3 | h3)
                  · exact Or.inl (Or.inl h3)
                  · exact Or.inr (Prod.ext h3.2.2 hyx)
              · constructor
                · rintro ((h3 | h3) | rfl)
                  · exact Or.inl h3
                  · exact Or.inr ⟨h3.1, by rw [h3.2.1]; rfl, h3.2.2⟩
                  · exact absurd rfl hyx
                · rintro (h3 | h3)
                  · exact Or.inl (Or.inl h3)
                  · refine Or.inl (Or.inr ⟨h3.1, ?_, h3.2.2⟩)
                    have := h3.2.1
                    simp [hyx] at this
                    exact this
          have HRun := Lib.hid hrun
          clear hg2 hrg2 hkey hat hv hrun q6 q7 q3 hU24 hU25 hU35 A5 hbW q5 q8 hR2lt hR2r hR2m
          clear hs2
          go_wp2_with (at_builtin; refine wpList_bapp rfl _ _ _ rfl rfl rfl HRun.out ?_)
          go_wp2_with fail
          go_roundw
          case rel => exact ⟨_, cnt2, _, _, HRG5.out, HA5.out, HG5.out, HU5.out, HR5.out, HSZ.out⟩
          case measure => rw [HRG5.out.left_eq, hrg.left_eq]; exact hlt
end
/-! Of. -/
def AccO (BA pc pl : Nat) (client : List UInt8) (w : World) (X : List (List UInt8)) (R : Nat → Prop) : Prop :=
  ∃ v, w.cell? ⟨pc, 0, none⟩ = some (.string ⟨client.toArray⟩) ∧ w.cell? ⟨pl, 0, none⟩ = some v ∧ w.frozen? ⟨pl, 0, none⟩ = false ∧ LevS BA w v X ∧ v.ownBlock ≠ some pl ∧ v.ownBlock ≠ some pc ∧ pc ≠ pl ∧ ∀ x, R x ↔ (x = pc ∨ x = pl ∨ v.ownBlock = some x)
theorem accO_ok (BA pc pl : Nat) (client : List UInt8) : AccOk (AccO BA pc pl client) where
  lt w X R h b hb := by
    obtain ⟨v, h0, h1, _, h3, _, _, _, h5⟩ := h
    rcases (h5 b).1 hb with rfl | rfl | h6
    · exact World.block_lt_of_cell? _ _ h0
    · exact World.block_lt_of_cell? _ _ h1
    · exact (h3.lt b h6).2
  keep w w' X R h e := by
    obtain ⟨v, h0, h1, h2, h3, h4, h6, h7, h5⟩ := h
    have hp := e pl ((h5 pl).2 (Or.inr (Or.inl rfl)))
    have hc := e pc ((h5 pc).2 (Or.inl rfl))
    exact ⟨v, (World.cell?_of_block hc).trans h0, (World.cell?_of_block hp).trans h1, (World.frozen?_of_block hp).trans h2, h3.keep (fun b hb => e b ((h5 b).2 (Or.inr (Or.inr hb)))), h4, h6, h7, h5⟩
def ownO (G : TG) (client : List UInt8) (p : Pth) (y : List UInt8) : Prop := G.cl p client ∧ y = joinL p
section
variable {t : Nat} {G : TG} {h ii : Int}
set_option maxHeartbeats 8000000 in
set_option maxRecDepth 100000 in
theorem visO (B BA pc pl : Nat) (client : List UInt8) (hcl : client.length ≤ 1000) (hBA : BA ≤ pl) (Z : List (List UInt8)) (hZ : Z.length ≤ 1000) (hjl : ∀ p c, G.cl p c → (joinL p).length ≤ 1000) : VisOkOf (AccO BA pc pl client) (ownO G client) G t h ii B Z pc pl := by
  intro w p b v X R PX hp hT hA hG hdis hPZ hB hL hp1 hRF hRv
  obtain ⟨AL, cL, rfl, hLc, hLs, hL0, hLb⟩ := hL.strs
  have HA := Lib.hid hA
  have HT := Lib.hid hT
  have HG := Lib.hid hG
  have HLS := Lib.hid hLs
  have HLB := Lib.hid hLb
  obtain ⟨v0, r0, _, _, _, _, _, _, _⟩ := hA
  clear hT hG hL hLs hLb
  by_cases hc : G.cl p client
  · have HC := Lib.hid hc
    have hjp := hjl p client hc
    obtain ⟨F, hF⟩ : ∃ F, joinL p = F := ⟨_, rfl⟩
    rw [hF] at hjp
    have HF := Lib.hid hF
    clear hF hc
    go_enter Tryz.func37, Tryz.ntmps37
    go_wp2_with fail
    refine (nHas_eq HT.out hp client true (by unfold maxLen; omega) ⟨fun _ => HC.out, fun _ => rfl⟩).mono ?_
    rintro e w1 ⟨rfl, hb1⟩
    have A1 := (accO_ok BA pc pl client).keep _ w1 _ _ HA.out (fun x hx => hb1.block x ((accO_ok BA pc pl client).lt _ _ _ HA.out x hx))
    obtain ⟨v2, q0, q1, q2, q3, q4, q5, q6, q7⟩ := A1
    obtain ⟨A3, c3, rfl, hown3⟩ := row_shape q3
    have hltp : pl < w1.heap.size := World.block_lt_of_cell? _ _ q1
    have hlenX : X.length ≤ 1000 := Nat.le_trans (HG.out.len (Z := Z) (fun y hy => hPZ y hy)) hZ
    have HB1 := Lib.hid hb1
    have HQ3 := Lib.hid q3
    have HLS1 := Lib.hid (HLS.out.below hb1)
    clear hb1 r0 q3
    go_wp2_with fail
    have hHeld : Outs w1 w1.drew (fun y => (Value.slice A3 X.length c3).ownBlock = some y) := Outs.of_below (Below.refl _ _).drew
    refine region_last (S := (fun w' => Outs w1 w' (fun y => (Value.slice A3 X.length c3).ownBlock = some y))) (m := 5) (by kernel_rfl) ?_
    have hLast : LastL .any _ 5 := last_chain (ops := #[oTgVis1, oTgVis2, oTgVis3, oTgVis4, oTgVis5, oTgVis6]) [(4, 5), (0, 4), (3, 4), (2, 3), (1, 2)] (by kernel_rfl)
    refine tkM hLast 0 oTgVis1 ?vv32_148_0 rfl (by kernel_rfl) (by kernel_rfl) (by kernel_rfl) (by rfl) (fun _ _ _ h => h) (by rfl) ?hy32_148_0 (by assumption) ?rest32_148_0
    case hy32_148_0 => (intro w hSw; unfold oTgVis1; (try dsimp only at hSw); have q := hSw.cell _ _ q1 q4; clear hSw; go_simp; all_goals with_reducible rfl)
    try simp only [oTgVis1, Act.put, sA, sB, sC]
    refine tkM hLast 1 oTgVis2 ?vv32_149_1 rfl (by kernel_rfl) (by kernel_rfl) (by kernel_rfl) (by rfl) (fun _ _ _ h => h) (by rfl) ?hy32_149_1 (by assumption) ?rest32_149_1
    case hy32_149_1 => (intro w hSw; unfold oTgVis2; (try dsimp only at hSw); (try go_split_ands); go_simp; all_goals with_reducible rfl)
    try simp only [oTgVis2, Act.put, sA, sB, sC]
    refine anyM_ready (rs := [2]) (by kernel_rfl) (by simp) ?_
    refine (AllM.cons (o := oTgVis3) rfl (fun K hK => ?_) AllM.nil)
    unfold oTgVis3
    go_simp
    (go_at_call 34; refine (tpJoin_eq AL p.length cL p F _ (HLS1.out.outs hHeld (fun g o e hg => hRv g ((q7 g).2 (Or.inr (Or.inr hg))) (HLB.out g o e))) hLc (by omega) (by omega) HF.out).mono ?_; rintro e w6 ⟨rfl, hb6⟩)
    refine anyM_go hK (by exact hHeld.more hb6) (fun hHeld => ?_)
    clear hK K
    try simp only [oTgVis3, Act.put, sA, sB, sC]
    refine anyM_ready (rs := [3]) (by kernel_rfl) (by simp) ?_
    refine (AllM.cons (o := oTgVis4) rfl (fun K hK => ?_) AllM.nil)
    unfold oTgVis4
    go_simp
    refine anyM_go hK (by exact hHeld.more (below_alloc (Below.refl _ _) _)) (fun hHeld => ?_)
    clear hK K
    try simp only [oTgVis4, Act.put, sA, sB, sC]
    have hbw6 : Below w1.heap.size w1 (w6.alloc (.cells #[.string ⟨F.toArray⟩] 9)) := below_alloc (below_more (Below.refl _ _).drew hb6) _
    have hsz6 : w1.heap.size ≤ w6.heap.size := (below_more (Below.refl _ _).drew hb6).size
    have L6 : LevS BA (w6.alloc (.cells #[.string ⟨F.toArray⟩] 9)) (.slice A3 X.length c3) X := HQ3.out.keep fun g hg => hbw6.block g (HQ3.out.lt g hg).2
    obtain ⟨v4, w4, hrun, q8, q9, q10, _⟩ := lev_append L6 (by simp; omega) w6.heap.size F (by rw [World.cell?_alloc_new]; rfl) (by omega) 0
    obtain ⟨A4, c4, rfl, _⟩ := row_shape q8
    have hU14 : Outs w1 w4 (fun y => (Value.slice A3 X.length c3).ownBlock = some y) := (Outs.of_below hbw6).trans (grown_outs (F := fun y => (Value.slice A3 X.length c3).ownBlock = some y) q9 (fun b e _ => e)) (fun _ _ h => h)
    have q04 : w4.cell? ⟨pc, 0, none⟩ = some (.string ⟨client.toArray⟩) := hU14.cell _ _ q0 q5
    have q14 : w4.cell? ⟨pl, 0, none⟩ = some (.slice A3 X.length c3) := hU14.cell _ _ q1 q4
    have q24 : w4.frozen? ⟨pl, 0, none⟩ = false := (World.frozen?_of_block (hU14.block pl hltp q4)).trans q2
    have hltc : pc < w1.heap.size := World.block_lt_of_cell? _ _ q0
    have hnew : ∀ g, (Value.slice A4 (X ++ [F]).length c4).ownBlock = some g → (Value.slice A3 X.length c3).ownBlock = some g ∨ w1.heap.size ≤ g := fun g hg => by
      rcases q10 with h3 | h3
      · rw [hg] at h3; exact Or.inl h3.symm
      · rw [hg] at h3
        have := Option.some.inj h3
        simp at this
        exact Or.inr (by omega)
    have hne4 : ∀ g, (Value.slice A4 (X ++ [F]).length c4).ownBlock = some g → g ≠ pl := fun g hg e => by
      subst e
      rcases hnew g hg with h3 | h3
      · exact q4 h3
      · omega
    have hne5 : (Value.slice A4 (X ++ [F]).length c4).ownBlock ≠ some pc := fun e => by
      rcases hnew pc e with h3 | h3
      · exact q5 h3
      · omega
    have hpcl : (⟨pl, 0, none⟩ : Addr) ≠ ⟨pc, 0, none⟩ := fun e => q6 (by cases e; rfl)
    have A5 : AccO BA pc pl client (w4.setCell ⟨pl, 0, none⟩ (.slice A4 (X ++ [F]).length c4)) (X ++ [F]) (fun y => y = pc ∨ y = pl ∨ (Value.slice A4 (X ++ [F]).length c4).ownBlock = some y) :=
      ⟨_, by rw [World.cell?_setCell_other _ _ _ _ hpcl]; exact q04, World.cell?_setCell_same _ _ _ q14, by rw [World.frozen?_setCell]; exact q24, q8.keep (fun g hg => heap_setCell_other _ _ _ _ (hne4 g hg)), fun e => hne4 _ e rfl, hne5, q6, fun y => Iff.rfl⟩
    have hU15 : Outs w1 (w4.setCell ⟨pl, 0, none⟩ (.slice A4 (X ++ [F]).length c4)) R := (hU14.mono (fun y _ hy => (q7 y).2 (Or.inr (Or.inr hy)))).setCell pl 0 ((q7 pl).2 (Or.inr (Or.inl rfl))) _
    have HA5 := Lib.hid A5
    have HU5 : Hid (Outs w (w4.setCell ⟨pl, 0, none⟩ (.slice A4 (X ++ [F]).length c4)) R) := (Outs.of_below HB1.out).trans hU15 (fun _ _ h => h)
    have HR5 : Hid (∀ y, (y = pc ∨ y = pl ∨ (Value.slice A4 (X ++ [F]).length c4).ownBlock = some y) → R y ∨ w.heap.size ≤ y) := fun y hy => by
      rcases hy with rfl | rfl | hy
      · exact Or.inl ((q7 y).2 (Or.inl rfl))
      · exact Or.inl ((q7 y).2 (Or.inr (Or.inl rfl)))
      · rcases hnew y hy with h3 | h3
        · exact Or.inl ((q7 y).2 (Or.inr (Or.inr h3)))
        · exact Or.inr (by have := HB1.out.size; omega)
    have HG5 : Hid (GoodY (X ++ [F]) (fun y => PX y ∨ ownO G client p y)) := by
      refine (HG.out.app (GoodY.one F) ?_).congr ?_
      · rintro y hy rfl
        exact hdis _ hy ⟨HC.out, HF.out.symm⟩
      · intro y
        unfold ownO
        rw [HF.out]
        simp [HC.out]
    have HU14 := Lib.hid hU14
    have HRun := Lib.hid hrun
    clear A5 hU15 hrun q8 q9 q10 L6 hU14 hnew
    refine anyM_ready (rs := [4]) (by kernel_rfl) (by simp) ?_
    refine (AllM.cons (o := oTgVis5) rfl (fun K hK => ?_) AllM.nil)
    (refine step_bapp rfl _ _ _ rfl rfl rfl HRun.out ?_)
    refine anyM_go hK (by exact HU14.out) (fun hHeld => ?_)
    clear hK K
    try simp only [oTgVis5, Act.put, sA, sB, sC]
    refine anyM_ready (rs := [5]) (by kernel_rfl) (by simp) ?_
    refine (AllM.cons (o := oTgVis6) rfl (fun K hK => ?_) AllM.nil)
    unfold oTgVis6
    go_simp
    refine hK.out _ _ (fun hne => absurd rfl hne) ?_
    clear hK K
    try simp only [oTgVis6, Act.put, sA, sB, sC]
    refine anyM_done (by kernel_rfl) ?_ _
    go_wp2_with fail
    (first | go_end0 | refine bodyPost_ret (results_none rfl _ _ _) rfl ?_)
    have hl1 : (X ++ [F]).length = X.length + 1 := by simp
    have e5 := HA5.out
    have e6 := HU5.out
    have e7 := HR5.out
    rw [hl1] at e5 e6 e7
    exact ⟨_, _, rfl, e5, HG5.out, e6, e7⟩
  · have HC := Lib.hid hc
    clear hc
    go_enter Tryz.func37, Tryz.ntmps37
    go_wp2_with fail
    refine (nHas_eq HT.out hp client false (by unfold maxLen; omega) ⟨fun e => (by cases e), fun e => absurd e HC.out⟩).mono ?_
    rintro e w1 ⟨rfl, hb1⟩
    go_wp2_with fail
    (first | go_end0 | refine bodyPost_ret (results_none rfl _ _ _) rfl ?_)
    exact ⟨X, R, rfl, (accO_ok BA pc pl client).keep _ w1 _ _ HA.out (fun x hx => hb1.block x ((accO_ok BA pc pl client).lt _ _ _ HA.out x hx)), HG.out.congr fun y => ⟨Or.inl, fun h => h.elim id (fun h => absurd h.1 HC.out)⟩, Outs.of_below hb1, fun x hx => Or.inl hx⟩
end
end Go.Proofs.YtipdmfnkkkdlbaaGreatDoor
