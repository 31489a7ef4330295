/-
  trie: the closure that walks the tree, for both visits.
-/
import Derived.Test.YtipdmfnkkkdlbaaGreatDoorTgLev
set_option linter.unusedSimpArgs false
set_option linter.unusedVariables false
namespace Go.Proofs.YtipdmfnkkkdlbaaGreatDoor
section
open Go.RowKit
def oTgWalk1 : Oper := ({ dst := some 22, op := Go.Op.load 78 (Go.Operand.tmp 3), type := 78, pos := "trie.go:197", after := #[], guard := none } : Oper)
def oTgWalk2 : Oper := ({ dst := some 23, op := Go.Op.move (Go.Operand.tmp 7), type := 57, pos := "trie.go:197", after := #[], guard := none } : Oper)
def oTgWalk3 : Oper := ({ dst := some 24, op := Go.Op.move (Go.Operand.tmp 1), type := 36, pos := "trie.go:197", after := #[], guard := none } : Oper)
def oTgWalk4 : Oper := ({ dst := some 25, op := Go.Op.move (Go.Operand.tmp 6), type := 9, pos := "trie.go:197", after := #[], guard := none } : Oper)
def oTgWalk5 : Oper := ({ dst := some 26, op := Go.Op.buildSlice 36 1 #[(0, Go.Operand.tmp 25)], type := 36, pos := "trie.go:197", after := #[{ on := 3, ground := Go.Ground.data }], guard := none } : Oper)
def oTgWalk6 : Oper := ({ dst := some 27, op := Go.Op.call { callee := Go.Callee.builtin Go.Builtin.append, args := #[Go.Operand.tmp 24, Go.Operand.tmp 26], argTypes := #[36, 36] }, type := 36, pos := "trie.go:197", after := #[{ on := 2, ground := Go.Ground.data }, { on := 4, ground := Go.Ground.data }], guard := none } : Oper)
def oTgWalk7 : Oper := ({ dst := some 28, op := Go.Op.call { callee := Go.Callee.value (Go.Operand.tmp 22), args := #[Go.Operand.tmp 23, Go.Operand.tmp 27], argTypes := #[57, 36] }, type := 0, pos := "trie.go:197", after := #[{ on := 0, ground := Go.Ground.data }, { on := 1, ground := Go.Ground.data }, { on := 5, ground := Go.Ground.data }, { on := 5, ground := Go.Ground.chain }], guard := none } : Oper)
end
open Go.RowKit Go.Maps

@[go_sem] theorem ptrO_some (b : Nat) : ptrO (some b) = .pointer (some ⟨b, 0, none⟩) := rfl
theorem ptrO_inv {v : Value} {y : DU × List MemPlace} (h : ptrE v = some y) : ∃ c, v = ptrO c := by
  rcases ptrE_inv h with ⟨rfl, _⟩ | ⟨b, rfl, _⟩
  · exact ⟨none, rfl⟩
  · exact ⟨some b, rfl⟩
section
variable {α : Type} {t : Nat} {G : TG} {h ii : Int}
def VisOkAll (Acc : World → List α → (Nat → Prop) → Prop) (own : Pth → α → Prop) (G : TG) (t : Nat) (h ii : Int) (B : Nat) (Z : List α) (pl : Nat) : Prop :=
  ∀ (w : World) (p : Pth) (b : Nat) (v : Value) (X : List α) (R : Nat → Prop) (PX : α → Prop), G.bl 0 p = some b → TR w t G h ii → Acc w X R → GoodY X PX → (∀ y, PX y → own p y → False) → (∀ y, PX y → y ∈ Z) → B ≤ w.heap.size → LevS B w v p → p.length ≤ 1000 → (∀ x, R x → ¬ G.F x) → (∀ x, R x → v.ownBlock ≠ some x) →
    Calls Tryz.prog 33 #[v, .pointer (some ⟨b, 0, none⟩), .pointer (some ⟨pl, 0, none⟩)] w fun e w' => VQ Acc w R (fun y => PX y ∨ own p y) R e w'
def WkKAll (pl : Nat) (p2 p3 : Nat) (wr : World) : Prop :=
  wr.cell? ⟨p2, 0, none⟩ = some (.func (.func 33) #[] #[.pointer (some ⟨pl, 0, none⟩)]) ∧ wr.cell? ⟨p3, 0, none⟩ = some (.func (.func 60) #[] #[.pointer (some ⟨p2, 0, none⟩), .pointer (some ⟨p3, 0, none⟩)])
def FrIHAll (Acc : World → List α → (Nat → Prop) → Prop) (own : Pth → α → Prop) (G : TG) (t : Nat) (h ii : Int) (B : Nat) (Z : List α) (pl : Nat) (p2 p3 : Nat) (m : Nat) : Prop :=
  ∀ (w : World) (p : Pth) (b : Nat) (v : Value) (X : List α) (R : Nat → Prop) (PX : α → Prop), (∀ q, G.bl 0 q ≠ none → q.length ≤ p.length + m) → p.length ≤ 1000 → G.bl 0 p = some b → TR w t G h ii → Acc w X R → GoodY X PX → (∀ y, PX y → UnP G own p y → False) → (∀ y, PX y → y ∈ Z) → B ≤ w.heap.size → LevS B w v p → WkKAll pl p2 p3 w → (∀ x, R x → ¬ G.F x) → (∀ x, R x → v.ownBlock ≠ some x) → (∀ x, R x → x ≠ p2 ∧ x ≠ p3) →
    Calls Tryz.prog 60 #[.pointer (some ⟨b, 0, none⟩), v, .pointer (some ⟨p2, 0, none⟩), .pointer (some ⟨p3, 0, none⟩)] w fun e w' => VQ Acc w R (fun y => PX y ∨ UnP G own p y) (fun x => R x ∨ v.ownBlock = some x) e w' ∧ LevS B w' v p
set_option maxHeartbeats 8000000 in
set_option maxRecDepth 100000 in
theorem fromAll_one (Acc : World → List α → (Nat → Prop) → Prop) (hAO : AccOk Acc) (own : Pth → α → Prop) (hinj : ∀ p q y, own p y → own q y → p = q) (B : Nat) (Z : List α) (pl : Nat) (p2 p3 : Nat) (hp2 : p2 < B) (hp3 : p3 < B) (hFB : ∀ x, G.F x → x < B) (hoz : ∀ p y, own p y → y ∈ Z) (hdep : ∀ q, G.bl 0 q ≠ none → q.length ≤ 1000 ∧ ∀ x ∈ q, x.length ≤ 1000)
    (HV : VisOkAll Acc own G t h ii B Z pl) (m : Nat) (ih : ∀ m', m' + 1 = m → FrIHAll Acc own G t h ii B Z pl p2 p3 m') : FrIHAll Acc own G t h ii B Z pl p2 p3 m := by
  intro w p b v X R PX hm hp1 hp hT hA hG hdis hPZ hB hL hK hRF hRv hRp
  have hLlt := hL.lt
  have hnF : ∀ x, v.ownBlock = some x → ¬ G.F x := fun x hx hf => by have := (hLlt x hx).1; have := hFB x hf; omega
  have hpne : G.bl 0 p ≠ none := by rw [hp]; simp
  have hown0 : ∀ y, own p y → UnP G own p y := fun y hy => ⟨[], by simpa using hpne, by simpa using hy⟩
  obtain ⟨k2, k3⟩ := hK
  have HT := Lib.hid hT
  have HL := Lib.hid hL
  have HA := Lib.hid hA
  have ih := Lib.hid ih
  have HV := Lib.hid HV
  have HG := Lib.hid hG
  have hlt3 : p3 < w.heap.size := World.block_lt_of_cell? _ _ k3
  have hlt2 : p2 < w.heap.size := World.block_lt_of_cell? _ _ k2
  have HDis := Lib.hid hdis
  have HM := Lib.hid hm
  clear hT hL hA hG hdis hm
  go_enter Tryz.func60, Tryz.ntmps60
  go_wp2_with fail
  refine (HV.out w p b v X R PX hp HT.out HA.out HG.out (fun y h1 h2 => HDis.out y h1 (hown0 y h2)) hPZ hB HL.out hp1 hRF hRv).mono ?_
  rintro e w1 ⟨X1, R1, rfl, hA1, hG1, hU1, hR1⟩
  have T1 := HT.out.outs hU1 hRF
  have L1 : LevS B w1 v p := HL.out.keep fun x hx => hU1.block x (hLlt x hx).2 (fun hr => hRv x hr hx)
  have k21 := hU1.cell _ _ k2 (fun hr => (hRp _ hr).1 rfl)
  have k31 := hU1.cell _ _ k3 (fun hr => (hRp _ hr).2 rfl)
  have hR1F : ∀ x, R1 x → ¬ G.F x := fun x hx hf => by
    rcases hR1 x hx with h1 | h1
    · exact hRF x h1 hf
    · have := HT.out.lt x hf; omega
  have hR1v : ∀ x, R1 x → v.ownBlock ≠ some x := fun x hx hv => by
    rcases hR1 x hx with h1 | h1
    · exact hRv x h1 hv
    · have := (hLlt x hv).2; omega
  have hR1p : ∀ x, R1 x → x ≠ p2 ∧ x ≠ p3 := fun x hx => by
    rcases hR1 x hx with h1 | h1
    · exact hRp x h1
    · omega
  have hpre : ∀ q, G.bl 0 (p ++ q) ≠ none → ∀ r, r <+: q → G.bl 0 (p ++ r) ≠ none := fun q hq r hr => by
    obtain ⟨s, rfl⟩ := hr
    rw [← List.append_assoc] at hq
    exact HT.out.pre _ _ hq
  obtain ⟨c0, c1, _⟩ := T1.cell p b hp
  have hkid := T1.kids p
  have HT1 := Lib.hid T1
  have HL1 := Lib.hid L1
  have HA1 := Lib.hid hA1
  have HG1 := Lib.hid hG1
  have HU1 := Lib.hid hU1
  have HR1 := Lib.hid hR1
  have HK21 := Lib.hid k21
  have HK31 := Lib.hid k31
  clear T1 L1 hA1 hG1 hU1 hR1 k21 k31 k2 k3
  cases h1 : G.bl 1 p with
  | none =>
    rw [h1] at c0 hkid
    have hrg := run_range_nilMap (P := Tryz.prog) w1 49 _ _ Tryz.underlying49
    have hnx : ∀ ty, (Instr.next (.pointer (some ⟨w1.heap.size, 0, none⟩)) false ty).run Tryz.prog (w1.alloc (.mapIter none 0 #[] 0)) = _ := fun ty => run_next_nilMap _ ty 0 0 #[]
    have HKD : Hid (∀ l, G.bl 0 (p ++ [l]) = none) := hkid
    clear hkid c1 h1
    go_wp2
    refine wp_loop_rounds 1 ?_
    rw [rounds_succ]
    go_wp2
    (first | go_end0 | refine bodyPost_ret (results_none rfl _ _ _) rfl ?_)
    have hbA : Below w1.heap.size w1 (w1.alloc (.mapIter none 0 #[] 0)) := below_alloc (Below.refl _ _) _
    refine ⟨⟨X1, R1, rfl, hAO.keep _ _ _ _ HA1.out (fun x hx => hbA.block x (hAO.lt _ _ _ HA1.out x hx)), HG1.out.congr fun y => ?_, (HU1.out.more hbA).mono (fun x _ hx => Or.inl hx), HR1.out⟩, HL1.out.keep fun x hx => hbA.block x (HL1.out.lt x hx).2⟩
    rw [← lp_end (left := fun _ => false) hpne (fun _ => rfl), lp_start (left := fun _ => false) hpre (fun l => by rw [HKD.out l]; rfl)]
  | some mm =>
    rw [h1] at c0 hkid
    obtain ⟨D, hown, hat0⟩ := hkid
    have hml := hown.lt
    have HH : Hid (∀ l, Maps.has D (.string l) = (G.bl 0 (p ++ [l])).isSome) := fun l => km_has hat0 l
    have HAT := Lib.hid hat0
    have hmF : G.F mm := ⟨1, p, h1⟩
    have HMF := Lib.hid hmF
    clear hat0 c1 h1 hmF
    go_wp2_with (first
      | (at_range; refine wpList_range_own _ rfl _ 49 rfl 9 57 kS Tryz.underlying49 ptrE mm (Maps.size D) D rfl hown ?_; intro w0 hrg0 hg0 hs0)
      | go_in)
    go_frame
    have hU0 : Outs w1 w0 (fun x => R1 x ∨ v.ownBlock = some x) := grown_outs hg0 (fun b e => by cases e)
    have HRG := Lib.hid hrg0
    have HG0 := Lib.hid hg0
    have HS0 := Lib.hid hs0
    have HU0 := Lib.hid hU0
    clear hrg0 hg0 hU0 hs0
    go_loopw [6, 7, 17] (fun _ _ _ wr => ∃ (left : Lit → Bool) (cnt : Nat) (X2 : List α) (R2 : Nat → Prop), wr.ranges Tryz.prog 9 ptrE mm w1.heap.size (Maps.size D) D left cnt ∧ Acc wr X2 R2 ∧ GoodY X2 (fun y => PX y ∨ LpP G own p left y) ∧
        Outs w1 wr (fun x => R1 x ∨ v.ownBlock = some x) ∧ (∀ x, R2 x → R1 x ∨ w0.heap.size ≤ x) ∧ LevS B wr v p ∧ w0.heap.size ≤ wr.heap.size) (fun _ _ _ wr => wr.rangeLeft mm w1.heap.size)
    case atStart =>
      refine ⟨_, _, X1, R1, HRG.out, hAO.keep _ _ _ _ HA1.out (fun x hx => HG0.out.block x (hAO.lt _ _ _ HA1.out x hx) (by simp)), HG1.out.congr fun y => ?_, HU0.out, fun x hx => Or.inl hx, HL1.out.keep fun x hx => HG0.out.block x (HL1.out.lt x hx).2 (by simp), Nat.le_refl _⟩
      rw [lp_start hpre HH.out]
    case round =>
      obtain ⟨left, cnt, X2, R2, hrg, hA2, hG2, hU2, hR2, hL2, hsz2⟩ := hrel
      have HA2 := Lib.hid hA2
      have HG2 := Lib.hid hG2
      have HU2 := Lib.hid hU2
      have HR2 := Lib.hid hR2
      have HL2 := Lib.hid hL2
      clear hA2 hG2 hU2 hR2 hL2
      go_wp2_with (first
        | (at_next; refine wpList_next_ranges _ rfl _ rfl 9 kS ptrE encStr ptrO (fun key kl hk => by obtain ⟨x, hx, _⟩ := Maps.keyOf_str Tryz.underlying9 hk; exact ⟨x, hx⟩) (fun v y hv => ptrO_inv hv) mm w1.heap.size _ _ _ _ rfl hrg ?_ ?_)
        | go_in)
      · intro hc0 hl0
        go_wp2
        (first | go_end0 | refine bodyPost_ret (results_none rfl _ _ _) rfl ?_)
        refine ⟨⟨X2, R2, rfl, HA2.out, HG2.out.congr fun y => by rw [lp_end hpne hl0], ((HU1.out.mono (fun x _ hx => Or.inl hx)).trans HU2.out (fun x hx hh => hh.elim (fun h3 => (HR1.out x h3).elim Or.inl (fun h4 => by omega)) Or.inr) (F := fun x => R x ∨ v.ownBlock = some x)), fun x hx => ?_⟩, HL2.out⟩
        have := HS0.out
        have := HU1.out.size
        rcases HR2.out x hx with h3 | h3
        · exact HR1.out x h3
        · exact Or.inr (by omega)
      · intro x c kl yd yp w2 cnt2 hkey hlx hv hat hrg2 hlt hg2 hs2 hen
        obtain ⟨x', ex, rfl, hxl⟩ := Maps.keyOf_str Tryz.underlying9 hkey
        obtain rfl : x = x' := encStr_inj ex
        clear ex
        obtain ⟨b', hb', rfl⟩ : ∃ b', G.bl 0 (p ++ [x]) = some b' ∧ c = some b' := by
          have e := hat .nil
          rw [HAT.out] at e
          rcases ptrE_inv hv with ⟨e2, e3⟩ | ⟨b2, e2, e3⟩
          · cases h9 : G.bl 0 (p ++ [x]) with
            | none =>
              have h8 := Maps.has_true_of_atKey (y := yd) hat
              rw [HH.out, h9] at h8; cases h8
            | some b3 =>
              rw [h9] at e
              simp only at e3
              rw [e3] at e; cases e
          · cases h9 : G.bl 0 (p ++ [x]) with
            | none =>
              have h8 := Maps.has_true_of_atKey (y := yd) hat
              rw [HH.out, h9] at h8; cases h8
            | some b3 =>
              rw [h9] at e
              simp only at e3
              rw [e3] at e
              have h6 := lit_inj e
              obtain rfl : b3 = b2 := by omega
              refine ⟨b3, rfl, ?_⟩
              cases c with
              | none => cases e2
              | some c1 => cases e2; rfl
        have hpx1 := (hdep _ (by rw [hb']; simp)).1
        have hxl2 : x.length ≤ 1000 := (hdep _ (by rw [hb']; simp)).2 x (by simp)
        have hlv := HL2.out.lt
        have hs9 := HS0.out
        have L2 : LevS B w2 v p := HL2.out.keep fun g hg => hg2.block g (hlv g hg).2 (fun e => by have := (hLlt g hg).2; have := HU1.out.size; have := Option.some.inj e; omega)
        have hBw : B ≤ (w2.drew.alloc (.cells #[.string ⟨x.toArray⟩] 9)).heap.size := by have := HU1.out.size; simp; omega
        have hU12 : Outs w1 w2 (fun x => R1 x ∨ v.ownBlock = some x) := HU2.out.trans (grown_outs (F := fun x => x = w1.heap.size) hg2 (fun b e _ => (Option.some.inj e).symm)) (fun x hx e => by omega)
        have k22 : w2.cell? ⟨p2, 0, none⟩ = _ := hU12.cell _ _ HK21.out (fun hr => hr.elim (fun h3 => (hR1p _ h3).1 rfl) (fun h3 => by have := (hLlt p2 h3).1; omega))
        have k32 : w2.cell? ⟨p3, 0, none⟩ = _ := hU12.cell _ _ HK31.out (fun hr => hr.elim (fun h3 => (hR1p _ h3).2 rfl) (fun h3 => by have := (hLlt p3 h3).1; omega))
        have hbW : Below w2.heap.size w2 (w2.drew.alloc (.cells #[.string ⟨x.toArray⟩] 9)) := below_alloc (Below.refl _ _).drew _
        obtain ⟨v', w4, hrun, hL4, hg4, hat4, hback⟩ := lev_append (L2.keep fun g hg => hbW.block g (L2.lt g hg).2) hBw w2.heap.size x (World.cell?_alloc_at _ _ _ _ rfl) (by omega) 0
        have hU24 : Outs w2 w4 (fun y => v.ownBlock = some y) := (Outs.of_below hbW).trans (grown_outs (F := fun y => v.ownBlock = some y) hg4 (fun b e _ => e)) (fun _ _ h => h)
        have hne2 : v.ownBlock ≠ some p2 := fun e => by have := (hLlt _ e).1; omega
        have hne3 : v.ownBlock ≠ some p3 := fun e => by have := (hLlt _ e).1; omega
        have hWs : w2.heap.size + 1 = (w2.drew.alloc (.cells #[.string ⟨x.toArray⟩] 9)).heap.size := by simp
        have hv'lt : ∀ y, v'.ownBlock = some y → v.ownBlock = some y ∨ y = w2.heap.size + 1 := fun y hy => by
          rcases hat4 with e | e
          · rw [hy] at e; exact Or.inl e.symm
          · rw [hy] at e; exact Or.inr (by rw [hWs]; exact Option.some.inj e)
        have hsz4 : w2.heap.size + 1 ≤ w4.heap.size := by rw [hWs]; exact hg4.size
        have hR2lt : ∀ y, R2 y → y < wr.heap.size := hAO.lt _ _ _ HA2.out
        have hR2F : ∀ y, R2 y → ¬ G.F y := fun y hy hf => by
          rcases HR2.out y hy with h3 | h3
          · exact hR1F y h3 hf
          · have := HT1.out.lt y hf; omega
        have hR2v : ∀ y, R2 y → v.ownBlock ≠ some y := fun y hy hv => by
          rcases HR2.out y hy with h3 | h3
          · exact hR1v y h3 hv
          · have := (hLlt y hv).2; have := HU1.out.size; omega
        have hR2p : ∀ y, R2 y → y ≠ p2 ∧ y ≠ p3 := fun y hy => by
          rcases HR2.out y hy with h3 | h3
          · exact hR1p y h3
          · have := HU1.out.size; omega
        have hR2r : ∀ y, R2 y → y ≠ w1.heap.size := fun y hy e => by
          rcases HR2.out y hy with h3 | h3
          · have := hAO.lt _ _ _ HA1.out y h3; omega
          · omega
        have hR2v' : ∀ y, R2 y → v'.ownBlock ≠ some y := fun y hy hv => by
          rcases hv'lt y hv with h3 | h3
          · exact hR2v y hy h3
          · have := hR2lt y hy; omega
        have A4 : Acc w4 X2 R2 := hAO.keep _ _ _ _ (hAO.keep _ _ _ _ HA2.out (fun y hy => hg2.block y (hR2lt y hy) (fun e => hR2r y hy (Option.some.inj e)))) (fun y hy => hU24.block y (by have := hR2lt y hy; omega) (fun e => hR2v y hy e))
        have T2 : TR w2 t G h ii := HT1.out.outs hU12 (fun y hy hf => hy.elim (fun h3 => hR1F y h3 hf) (fun h3 => hnF y h3 hf))
        have T4 : TR w4 t G h ii := T2.outs hU24 (fun y hy hf => hnF y hy hf)
        have HRun := Lib.hid hrun
        have HA4 := Lib.hid A4
        have HT4 := Lib.hid T4
        have HL4 := Lib.hid hL4
        have HU24 := Lib.hid hU24
        have HU12 := Lib.hid hU12
        have HBack := Lib.hid hback
        have HRG2 := Lib.hid hrg2
        have HG2g := Lib.hid hg2
        have HB' := Lib.hid hb'
        have HK4 : Hid (WkKAll pl p2 p3 w4) := ⟨hU24.cell _ _ k22 hne2, hU24.cell _ _ k32 hne3⟩
        have HDS : Hid (∀ y, (PX y ∨ LpP G own p left y) → UnP G own (p ++ [x]) y → False) := fun y hy hu => by
          rcases hy with h3 | h3
          · refine HDis.out y h3 ?_
            obtain ⟨q, h4, h5⟩ := hu
            exact ⟨x :: q, by simpa using h4, by simpa using h5⟩
          · exact lp_dis hinj x hlx y h3 hu
        have HPZ : Hid (∀ y, (PX y ∨ LpP G own p left y) → y ∈ Z) := fun y hy => by
          rcases hy with h3 | h3
          · exact hPZ y h3
          · rcases h3 with h3 | ⟨_, _, _, _, h3⟩
            · exact hoz _ _ h3
            · exact hoz _ _ h3
        obtain ⟨m', hm'⟩ : ∃ m', m' + 1 = m := by
          have := HM.out (p ++ [x]) (by rw [hb']; simp)
          simp at this
          exact ⟨m - 1, by omega⟩
        clear hrun A4 T2 T4 hL4 hU24 hU12 hback hg4 hat4 hrg2 hg2 hkey hat hv hb' L2
        have hsz20 : w0.heap.size ≤ w2.heap.size := by omega
        clear hs2
        go_wp2_with fail
        have hHeld : Outs w2 w2.drew (fun y => v.ownBlock = some y) := Outs.of_below (Below.refl _ _).drew
        refine region_last (S := (fun w' => Outs w2 w' (fun y => v.ownBlock = some y))) (m := 6) (by kernel_rfl) ?_
        have hLast : LastL .any _ 6 := last_chain (ops := #[oTgWalk1, oTgWalk2, oTgWalk3, oTgWalk4, oTgWalk5, oTgWalk6, oTgWalk7]) [(0, 6), (1, 6), (5, 6), (2, 5), (4, 5), (3, 4)] (by kernel_rfl)
        refine tkM hLast 0 oTgWalk1 ?vv30_144_0 rfl (by kernel_rfl) (by kernel_rfl) (by kernel_rfl) (by rfl) (fun _ _ _ h => h) (by rfl) ?hy30_144_0 (by assumption) ?rest30_144_0
        case hy30_144_0 => (intro w hSw; unfold oTgWalk1; (try dsimp only at hSw); have q := hSw.cell _ _ k32 hne3; clear hSw; go_simp; all_goals with_reducible rfl)
        try simp only [oTgWalk1, Act.put, sA, sB, sC]
        refine tkM hLast 1 oTgWalk2 ?vv30_145_1 rfl (by kernel_rfl) (by kernel_rfl) (by kernel_rfl) (by rfl) (fun _ _ _ h => h) (by rfl) ?hy30_145_1 (by assumption) ?rest30_145_1
        case hy30_145_1 => (intro w hSw; unfold oTgWalk2; (try dsimp only at hSw); (try go_split_ands); go_simp; all_goals with_reducible rfl)
        try simp only [oTgWalk2, Act.put, sA, sB, sC]
        refine tkM hLast 2 oTgWalk3 ?vv30_145_2 rfl (by kernel_rfl) (by kernel_rfl) (by kernel_rfl) (by rfl) (fun _ _ _ h => h) (by rfl) ?hy30_145_2 (by assumption) ?rest30_145_2
        case hy30_145_2 => (intro w hSw; unfold oTgWalk3; (try dsimp only at hSw); (try go_split_ands); go_simp; all_goals with_reducible rfl)
        try simp only [oTgWalk3, Act.put, sA, sB, sC]
        refine tkM hLast 3 oTgWalk4 ?vv30_145_3 rfl (by kernel_rfl) (by kernel_rfl) (by kernel_rfl) (by rfl) (fun _ _ _ h => h) (by rfl) ?hy30_145_3 (by assumption) ?rest30_145_3
        case hy30_145_3 => (intro w hSw; unfold oTgWalk4; (try dsimp only at hSw); (try go_split_ands); go_simp; all_goals with_reducible rfl)
        try simp only [oTgWalk4, Act.put, sA, sB, sC]
        refine anyM_ready (rs := [4]) (by kernel_rfl) (by simp) ?_
        refine (AllM.cons (o := oTgWalk5) rfl (fun K hK => ?_) AllM.nil)
        unfold oTgWalk5
        go_simp
        refine anyM_go hK (by exact hHeld.more (below_alloc (Below.refl _ _) _)) (fun hHeld => ?_)
        clear hK K
        try simp only [oTgWalk5, Act.put, sA, sB, sC]
        refine anyM_ready (rs := [5]) (by kernel_rfl) (by simp) ?_
        refine (AllM.cons (o := oTgWalk6) rfl (fun K hK => ?_) AllM.nil)
        (refine step_bapp rfl _ _ _ rfl rfl rfl HRun.out ?_)
        refine anyM_go hK (by exact HU24.out) (fun hHeld => ?_)
        clear hK K
        try simp only [oTgWalk6, Act.put, sA, sB, sC]
        refine anyM_ready (rs := [6]) (by kernel_rfl) (by simp) ?_
        refine (AllM.cons (o := oTgWalk7) rfl (fun K hK => ?_) AllM.nil)
        unfold oTgWalk7
        go_simp
        (go_at_call 60; refine (ih.out m' hm' w4 (p ++ [x]) b' v' X2 R2 _ (fun q hq => by have := HM.out q hq; simp; omega) hpx1 HB'.out HT4.out HA4.out HG2.out HDS.out HPZ.out (by have := HU1.out.size; omega) HL4.out HK4.out hR2F hR2v' hR2p).mono ?_; rintro e w6 ⟨⟨X3, R3, rfl, hA3, hG3, hU3, hR3⟩, hL3⟩)
        refine hK.out _ _ (fun hne => absurd rfl hne) ?_
        clear hK K
        try simp only [oTgWalk7, Act.put, sA, sB, sC]
        refine anyM_done (by kernel_rfl) ?_ _
        clear hHeld
        have hF6 : ∀ y, v.ownBlock = some y → v'.ownBlock ≠ some y → w6.heap[y]? = w4.heap[y]? := fun y hy hn => hU3.block y (by have := (hLlt y hy).2; have := HU1.out.size; omega) (fun hr => hr.elim (fun h3 => hR2v y h3 hy) hn)
        have L6 : LevS B w6 v p := HBack.out w6 hL3 hF6
        have hFx : ∀ y, y < w2.heap.size → (R2 y ∨ v'.ownBlock = some y) → R2 y ∨ v.ownBlock = some y := fun y hy hr => hr.elim Or.inl (fun h3 => (hv'lt y h3).elim Or.inr (fun h4 => by omega))
        have hU26 : Outs w2 w6 (fun y => R2 y ∨ v.ownBlock = some y) := (HU24.out.mono (fun y _ hy => Or.inr hy)).trans hU3 hFx
        have hU16 : Outs w1 w6 (fun x => R1 x ∨ v.ownBlock = some x) := HU12.out.trans hU26 (fun y hy hr => hr.elim (fun h3 => (HR2.out y h3).elim Or.inl (fun h4 => by omega)) Or.inr)
        have hmr2 : ¬ (R2 mm ∨ v.ownBlock = some mm) := fun hr => hr.elim (fun h3 => hR2F _ h3 HMF.out) (fun h3 => hnF _ h3 HMF.out)
        have hrr2 : ¬ (R2 w1.heap.size ∨ v.ownBlock = some w1.heap.size) := fun hr => hr.elim (fun h3 => hR2r _ h3 rfl) (fun h3 => by have := (hLlt _ h3).2; have := HU1.out.size; omega)
        have hrg6 := ranges_keep HRG2.out (hU26.block mm (HRG2.out.owns.lt) hmr2) (hU26.block w1.heap.size HRG2.out.lt hrr2)
        have HRG6 := Lib.hid hrg6
        have HL6 := Lib.hid L6
        have HA6 := Lib.hid hA3
        have HU16 := Lib.hid hU16
        have HG6 : Hid (GoodY X3 (fun y => PX y ∨ LpP G own p (fun z => left z && !z.sameKey (.string x)) y)) := hG3.congr fun y => by rw [lp_step, or_assoc]
        have HR6 : Hid (∀ y, R3 y → R1 y ∨ w0.heap.size ≤ y) := fun y hy => (hR3 y hy).elim (HR2.out y) (fun h3 => Or.inr (by omega))
        have hsz6 : w0.heap.size ≤ w6.heap.size := by have := hU26.size; have := hU3.size; omega
        clear hA3 hG3 hU3 hR3 hL3 hF6 L6 hFx hU26 hU16 hrg6
        go_wp2_with fail
        go_roundw
        case rel => exact ⟨_, cnt2, X3, R3, HRG6.out, HA6.out, HG6.out, HU16.out, HR6.out, HL6.out, hsz6⟩
        case measure => rw [HRG6.out.left_eq, hrg.left_eq]; exact hlt
theorem fromAll_any (Acc : World → List α → (Nat → Prop) → Prop) (hAO : AccOk Acc) (own : Pth → α → Prop) (hinj : ∀ p q y, own p y → own q y → p = q) (B : Nat) (Z : List α) (pl : Nat) (p2 p3 : Nat) (hp2 : p2 < B) (hp3 : p3 < B) (hFB : ∀ x, G.F x → x < B) (hoz : ∀ p y, own p y → y ∈ Z) (hdep : ∀ q, G.bl 0 q ≠ none → q.length ≤ 1000 ∧ ∀ x ∈ q, x.length ≤ 1000)
    (HV : VisOkAll Acc own G t h ii B Z pl) : ∀ m, FrIHAll Acc own G t h ii B Z pl p2 p3 m
  | 0 => fromAll_one Acc hAO own hinj B Z pl p2 p3 hp2 hp3 hFB hoz hdep HV 0 (fun m' hm' => by omega)
  | m + 1 => fromAll_one Acc hAO own hinj B Z pl p2 p3 hp2 hp3 hFB hoz hdep HV (m + 1) (fun m' hm' => by
    obtain rfl : m' = m := by omega
    exact fromAll_any Acc hAO own hinj B Z pl p2 p3 hp2 hp3 hFB hoz hdep HV m')
end
section
variable {α : Type} {t : Nat} {G : TG} {h ii : Int}
def VisOkOf (Acc : World → List α → (Nat → Prop) → Prop) (own : Pth → α → Prop) (G : TG) (t : Nat) (h ii : Int) (B : Nat) (Z : List α) (pc pl : Nat) : Prop :=
  ∀ (w : World) (p : Pth) (b : Nat) (v : Value) (X : List α) (R : Nat → Prop) (PX : α → Prop), G.bl 0 p = some b → TR w t G h ii → Acc w X R → GoodY X PX → (∀ y, PX y → own p y → False) → (∀ y, PX y → y ∈ Z) → B ≤ w.heap.size → LevS B w v p → p.length ≤ 1000 → (∀ x, R x → ¬ G.F x) → (∀ x, R x → v.ownBlock ≠ some x) →
    Calls Tryz.prog 37 #[v, .pointer (some ⟨b, 0, none⟩), .pointer (some ⟨pc, 0, none⟩), .pointer (some ⟨pl, 0, none⟩)] w fun e w' => VQ Acc w R (fun y => PX y ∨ own p y) R e w'
def WkKOf (pc pl : Nat) (p2 p3 : Nat) (wr : World) : Prop :=
  wr.cell? ⟨p2, 0, none⟩ = some (.func (.func 37) #[] #[.pointer (some ⟨pc, 0, none⟩), .pointer (some ⟨pl, 0, none⟩)]) ∧ wr.cell? ⟨p3, 0, none⟩ = some (.func (.func 60) #[] #[.pointer (some ⟨p2, 0, none⟩), .pointer (some ⟨p3, 0, none⟩)])
def FrIHOf (Acc : World → List α → (Nat → Prop) → Prop) (own : Pth → α → Prop) (G : TG) (t : Nat) (h ii : Int) (B : Nat) (Z : List α) (pc pl : Nat) (p2 p3 : Nat) (m : Nat) : Prop :=
  ∀ (w : World) (p : Pth) (b : Nat) (v : Value) (X : List α) (R : Nat → Prop) (PX : α → Prop), (∀ q, G.bl 0 q ≠ none → q.length ≤ p.length + m) → p.length ≤ 1000 → G.bl 0 p = some b → TR w t G h ii → Acc w X R → GoodY X PX → (∀ y, PX y → UnP G own p y → False) → (∀ y, PX y → y ∈ Z) → B ≤ w.heap.size → LevS B w v p → WkKOf pc pl p2 p3 w → (∀ x, R x → ¬ G.F x) → (∀ x, R x → v.ownBlock ≠ some x) → (∀ x, R x → x ≠ p2 ∧ x ≠ p3) →
    Calls Tryz.prog 60 #[.pointer (some ⟨b, 0, none⟩), v, .pointer (some ⟨p2, 0, none⟩), .pointer (some ⟨p3, 0, none⟩)] w fun e w' => VQ Acc w R (fun y => PX y ∨ UnP G own p y) (fun x => R x ∨ v.ownBlock = some x) e w' ∧ LevS B w' v p
set_option maxHeartbeats 8000000 in
set_option maxRecDepth 100000 in
theorem fromOf_one (Acc : World → List α → (Nat → Prop) → Prop) (hAO : AccOk Acc) (own : Pth → α → Prop) (hinj : ∀ p q y, own p y → own q y → p = q) (B : Nat) (Z : List α) (pc pl : Nat) (p2 p3 : Nat) (hp2 : p2 < B) (hp3 : p3 < B) (hFB : ∀ x, G.F x → x < B) (hoz : ∀ p y, own p y → y ∈ Z) (hdep : ∀ q, G.bl 0 q ≠ none → q.length ≤ 1000 ∧ ∀ x ∈ q, x.length ≤ 1000)
    (HV : VisOkOf Acc own G t h ii B Z pc pl) (m : Nat) (ih : ∀ m', m' + 1 = m → FrIHOf Acc own G t h ii B Z pc pl p2 p3 m') : FrIHOf Acc own G t h ii B Z pc pl p2 p3 m := by
  intro w p b v X R PX hm hp1 hp hT hA hG hdis hPZ hB hL hK hRF hRv hRp
  have hLlt := hL.lt
  have hnF : ∀ x, v.ownBlock = some x → ¬ G.F x := fun x hx hf => by have := (hLlt x hx).1; have := hFB x hf; omega
  have hpne : G.bl 0 p ≠ none := by rw [hp]; simp
  have hown0 : ∀ y, own p y → UnP G own p y := fun y hy => ⟨[], by simpa using hpne, by simpa using hy⟩
  obtain ⟨k2, k3⟩ := hK
  have HT := Lib.hid hT
  have HL := Lib.hid hL
  have HA := Lib.hid hA
  have ih := Lib.hid ih
  have HV := Lib.hid HV
  have HG := Lib.hid hG
  have hlt3 : p3 < w.heap.size := World.block_lt_of_cell? _ _ k3
  have hlt2 : p2 < w.heap.size := World.block_lt_of_cell? _ _ k2
  have HDis := Lib.hid hdis
  have HM := Lib.hid hm
  clear hT hL hA hG hdis hm
  go_enter Tryz.func60, Tryz.ntmps60
  go_wp2_with fail
  refine (HV.out w p b v X R PX hp HT.out HA.out HG.out (fun y h1 h2 => HDis.out y h1 (hown0 y h2)) hPZ hB HL.out hp1 hRF hRv).mono ?_
  rintro e w1 ⟨X1, R1, rfl, hA1, hG1, hU1, hR1⟩
  have T1 := HT.out.outs hU1 hRF
  have L1 : LevS B w1 v p := HL.out.keep fun x hx => hU1.block x (hLlt x hx).2 (fun hr => hRv x hr hx)
  have k21 := hU1.cell _ _ k2 (fun hr => (hRp _ hr).1 rfl)
  have k31 := hU1.cell _ _ k3 (fun hr => (hRp _ hr).2 rfl)
  have hR1F : ∀ x, R1 x → ¬ G.F x := fun x hx hf => by
    rcases hR1 x hx with h1 | h1
    · exact hRF x h1 hf
    · have := HT.out.lt x hf; omega
  have hR1v : ∀ x, R1 x → v.ownBlock ≠ some x := fun x hx hv => by
    rcases hR1 x hx with h1 | h1
    · exact hRv x h1 hv
    · have := (hLlt x hv).2; omega
  have hR1p : ∀ x, R1 x → x ≠ p2 ∧ x ≠ p3 := fun x hx => by
    rcases hR1 x hx with h1 | h1
    · exact hRp x h1
    · omega
  have hpre : ∀ q, G.bl 0 (p ++ q) ≠ none → ∀ r, r <+: q → G.bl 0 (p ++ r) ≠ none := fun q hq r hr => by
    obtain ⟨s, rfl⟩ := hr
    rw [← List.append_assoc] at hq
    exact HT.out.pre _ _ hq
  obtain ⟨c0, c1, _⟩ := T1.cell p b hp
  have hkid := T1.kids p
  have HT1 := Lib.hid T1
  have HL1 := Lib.hid L1
  have HA1 := Lib.hid hA1
  have HG1 := Lib.hid hG1
  have HU1 := Lib.hid hU1
  have HR1 := Lib.hid hR1
  have HK21 := Lib.hid k21
  have HK31 := Lib.hid k31
  clear T1 L1 hA1 hG1 hU1 hR1 k21 k31 k2 k3
  cases h1 : G.bl 1 p with
  | none =>
    rw [h1] at c0 hkid
    have hrg := run_range_nilMap (P := Tryz.prog) w1 49 _ _ Tryz.underlying49
    have hnx : ∀ ty, (Instr.next (.pointer (some ⟨w1.heap.size, 0, none⟩)) false ty).run Tryz.prog (w1.alloc (.mapIter none 0 #[] 0)) = _ := fun ty => run_next_nilMap _ ty 0 0 #[]
    have HKD : Hid (∀ l, G.bl 0 (p ++ [l]) = none) := hkid
    clear hkid c1 h1
    go_wp2
    refine wp_loop_rounds 1 ?_
    rw [rounds_succ]
    go_wp2
    (first | go_end0 | refine bodyPost_ret (results_none rfl _ _ _) rfl ?_)
    have hbA : Below w1.heap.size w1 (w1.alloc (.mapIter none 0 #[] 0)) := below_alloc (Below.refl _ _) _
    refine ⟨⟨X1, R1, rfl, hAO.keep _ _ _ _ HA1.out (fun x hx => hbA.block x (hAO.lt _ _ _ HA1.out x hx)), HG1.out.congr fun y => ?_, (HU1.out.more hbA).mono (fun x _ hx => Or.inl hx), HR1.out⟩, HL1.out.keep fun x hx => hbA.block x (HL1.out.lt x hx).2⟩
    rw [← lp_end (left := fun _ => false) hpne (fun _ => rfl), lp_start (left := fun _ => false) hpre (fun l => by rw [HKD.out l]; rfl)]
  | some mm =>
    rw [h1] at c0 hkid
    obtain ⟨D, hown, hat0⟩ := hkid
    have hml := hown.lt
    have HH : Hid (∀ l, Maps.has D (.string l) = (G.bl 0 (p ++ [l])).isSome) := fun l => km_has hat0 l
    have HAT := Lib.hid hat0
    have hmF : G.F mm := ⟨1, p, h1⟩
    have HMF := Lib.hid hmF
    clear hat0 c1 h1 hmF
    go_wp2_with (first
      | (at_range; refine wpList_range_own _ rfl _ 49 rfl 9 57 kS Tryz.underlying49 ptrE mm (Maps.size D) D rfl hown ?_; intro w0 hrg0 hg0 hs0)
      | go_in)
    go_frame
    have hU0 : Outs w1 w0 (fun x => R1 x ∨ v.ownBlock = some x) := grown_outs hg0 (fun b e => by cases e)
    have HRG := Lib.hid hrg0
    have HG0 := Lib.hid hg0
    have HS0 := Lib.hid hs0
    have HU0 := Lib.hid hU0
    clear hrg0 hg0 hU0 hs0
    go_loopw [6, 7, 17] (fun _ _ _ wr => ∃ (left : Lit → Bool) (cnt : Nat) (X2 : List α) (R2 : Nat → Prop), wr.ranges Tryz.prog 9 ptrE mm w1.heap.size (Maps.size D) D left cnt ∧ Acc wr X2 R2 ∧ GoodY X2 (fun y => PX y ∨ LpP G own p left y) ∧
        Outs w1 wr (fun x => R1 x ∨ v.ownBlock = some x) ∧ (∀ x, R2 x → R1 x ∨ w0.heap.size ≤ x) ∧ LevS B wr v p ∧ w0.heap.size ≤ wr.heap.size) (fun _ _ _ wr => wr.rangeLeft mm w1.heap.size)
    case atStart =>
      refine ⟨_, _, X1, R1, HRG.out, hAO.keep _ _ _ _ HA1.out (fun x hx => HG0.out.block x (hAO.lt _ _ _ HA1.out x hx) (by simp)), HG1.out.congr fun y => ?_, HU0.out, fun x hx => Or.inl hx, HL1.out.keep fun x hx => HG0.out.block x (HL1.out.lt x hx).2 (by simp), Nat.le_refl _⟩
      rw [lp_start hpre HH.out]
    case round =>
      obtain ⟨left, cnt, X2, R2, hrg, hA2, hG2, hU2, hR2, hL2, hsz2⟩ := hrel
      have HA2 := Lib.hid hA2
      have HG2 := Lib.hid hG2
      have HU2 := Lib.hid hU2
      have HR2 := Lib.hid hR2
      have HL2 := Lib.hid hL2
      clear hA2 hG2 hU2 hR2 hL2
      go_wp2_with (first
        | (at_next; refine wpList_next_ranges _ rfl _ rfl 9 kS ptrE encStr ptrO (fun key kl hk => by obtain ⟨x, hx, _⟩ := Maps.keyOf_str Tryz.underlying9 hk; exact ⟨x, hx⟩) (fun v y hv => ptrO_inv hv) mm w1.heap.size _ _ _ _ rfl hrg ?_ ?_)
        | go_in)
      · intro hc0 hl0
        go_wp2
        (first | go_end0 | refine bodyPost_ret (results_none rfl _ _ _) rfl ?_)
        refine ⟨⟨X2, R2, rfl, HA2.out, HG2.out.congr fun y => by rw [lp_end hpne hl0], ((HU1.out.mono (fun x _ hx => Or.inl hx)).trans HU2.out (fun x hx hh => hh.elim (fun h3 => (HR1.out x h3).elim Or.inl (fun h4 => by omega)) Or.inr) (F := fun x => R x ∨ v.ownBlock = some x)), fun x hx => ?_⟩, HL2.out⟩
        have := HS0.out
        have := HU1.out.size
        rcases HR2.out x hx with h3 | h3
        · exact HR1.out x h3
        · exact Or.inr (by omega)
      · intro x c kl yd yp w2 cnt2 hkey hlx hv hat hrg2 hlt hg2 hs2 hen
        obtain ⟨x', ex, rfl, hxl⟩ := Maps.keyOf_str Tryz.underlying9 hkey
        obtain rfl : x = x' := encStr_inj ex
        clear ex
        obtain ⟨b', hb', rfl⟩ : ∃ b', G.bl 0 (p ++ [x]) = some b' ∧ c = some b' := by
          have e := hat .nil
          rw [HAT.out] at e
          rcases ptrE_inv hv with ⟨e2, e3⟩ | ⟨b2, e2, e3⟩
          · cases h9 : G.bl 0 (p ++ [x]) with
            | none =>
              have h8 := Maps.has_true_of_atKey (y := yd) hat
              rw [HH.out, h9] at h8; cases h8
            | some b3 =>
              rw [h9] at e
              simp only at e3
              rw [e3] at e; cases e
          · cases h9 : G.bl 0 (p ++ [x]) with
            | none =>
              have h8 := Maps.has_true_of_atKey (y := yd) hat
              rw [HH.out, h9] at h8; cases h8
            | some b3 =>
              rw [h9] at e
              simp only at e3
              rw [e3] at e
              have h6 := lit_inj e
              obtain rfl : b3 = b2 := by omega
              refine ⟨b3, rfl, ?_⟩
              cases c with
              | none => cases e2
              | some c1 => cases e2; rfl
        have hpx1 := (hdep _ (by rw [hb']; simp)).1
        have hxl2 : x.length ≤ 1000 := (hdep _ (by rw [hb']; simp)).2 x (by simp)
        have hlv := HL2.out.lt
        have hs9 := HS0.out
        have L2 : LevS B w2 v p := HL2.out.keep fun g hg => hg2.block g (hlv g hg).2 (fun e => by have := (hLlt g hg).2; have := HU1.out.size; have := Option.some.inj e; omega)
        have hBw : B ≤ (w2.drew.alloc (.cells #[.string ⟨x.toArray⟩] 9)).heap.size := by have := HU1.out.size; simp; omega
        have hU12 : Outs w1 w2 (fun x => R1 x ∨ v.ownBlock = some x) := HU2.out.trans (grown_outs (F := fun x => x = w1.heap.size) hg2 (fun b e _ => (Option.some.inj e).symm)) (fun x hx e => by omega)
        have k22 : w2.cell? ⟨p2, 0, none⟩ = _ := hU12.cell _ _ HK21.out (fun hr => hr.elim (fun h3 => (hR1p _ h3).1 rfl) (fun h3 => by have := (hLlt p2 h3).1; omega))
        have k32 : w2.cell? ⟨p3, 0, none⟩ = _ := hU12.cell _ _ HK31.out (fun hr => hr.elim (fun h3 => (hR1p _ h3).2 rfl) (fun h3 => by have := (hLlt p3 h3).1; omega))
        have hbW : Below w2.heap.size w2 (w2.drew.alloc (.cells #[.string ⟨x.toArray⟩] 9)) := below_alloc (Below.refl _ _).drew _
        obtain ⟨v', w4, hrun, hL4, hg4, hat4, hback⟩ := lev_append (L2.keep fun g hg => hbW.block g (L2.lt g hg).2) hBw w2.heap.size x (World.cell?_alloc_at _ _ _ _ rfl) (by omega) 0
        have hU24 : Outs w2 w4 (fun y => v.ownBlock = some y) := (Outs.of_below hbW).trans (grown_outs (F := fun y => v.ownBlock = some y) hg4 (fun b e _ => e)) (fun _ _ h => h)
        have hne2 : v.ownBlock ≠ some p2 := fun e => by have := (hLlt _ e).1; omega
        have hne3 : v.ownBlock ≠ some p3 := fun e => by have := (hLlt _ e).1; omega
        have hWs : w2.heap.size + 1 = (w2.drew.alloc (.cells #[.string ⟨x.toArray⟩] 9)).heap.size := by simp
        have hv'lt : ∀ y, v'.ownBlock = some y → v.ownBlock = some y ∨ y = w2.heap.size + 1 := fun y hy => by
          rcases hat4 with e | e
          · rw [hy] at e; exact Or.inl e.symm
          · rw [hy] at e; exact Or.inr (by rw [hWs]; exact Option.some.inj e)
        have hsz4 : w2.heap.size + 1 ≤ w4.heap.size := by rw [hWs]; exact hg4.size
        have hR2lt : ∀ y, R2 y → y < wr.heap.size := hAO.lt _ _ _ HA2.out
        have hR2F : ∀ y, R2 y → ¬ G.F y := fun y hy hf => by
          rcases HR2.out y hy with h3 | h3
          · exact hR1F y h3 hf
          · have := HT1.out.lt y hf; omega
        have hR2v : ∀ y, R2 y → v.ownBlock ≠ some y := fun y hy hv => by
          rcases HR2.out y hy with h3 | h3
          · exact hR1v y h3 hv
          · have := (hLlt y hv).2; have := HU1.out.size; omega
        have hR2p : ∀ y, R2 y → y ≠ p2 ∧ y ≠ p3 := fun y hy => by
          rcases HR2.out y hy with h3 | h3
          · exact hR1p y h3
          · have := HU1.out.size; omega
        have hR2r : ∀ y, R2 y → y ≠ w1.heap.size := fun y hy e => by
          rcases HR2.out y hy with h3 | h3
          · have := hAO.lt _ _ _ HA1.out y h3; omega
          · omega
        have hR2v' : ∀ y, R2 y → v'.ownBlock ≠ some y := fun y hy hv => by
          rcases hv'lt y hv with h3 | h3
          · exact hR2v y hy h3
          · have := hR2lt y hy; omega
        have A4 : Acc w4 X2 R2 := hAO.keep _ _ _ _ (hAO.keep _ _ _ _ HA2.out (fun y hy => hg2.block y (hR2lt y hy) (fun e => hR2r y hy (Option.some.inj e)))) (fun y hy => hU24.block y (by have := hR2lt y hy; omega) (fun e => hR2v y hy e))
        have T2 : TR w2 t G h ii := HT1.out.outs hU12 (fun y hy hf => hy.elim (fun h3 => hR1F y h3 hf) (fun h3 => hnF y h3 hf))
        have T4 : TR w4 t G h ii := T2.outs hU24 (fun y hy hf => hnF y hy hf)
        have HRun := Lib.hid hrun
        have HA4 := Lib.hid A4
        have HT4 := Lib.hid T4
        have HL4 := Lib.hid hL4
        have HU24 := Lib.hid hU24
        have HU12 := Lib.hid hU12
        have HBack := Lib.hid hback
        have HRG2 := Lib.hid hrg2
        have HG2g := Lib.hid hg2
        have HB' := Lib.hid hb'
        have HK4 : Hid (WkKOf pc pl p2 p3 w4) := ⟨hU24.cell _ _ k22 hne2, hU24.cell _ _ k32 hne3⟩
        have HDS : Hid (∀ y, (PX y ∨ LpP G own p left y) → UnP G own (p ++ [x]) y → False) := fun y hy hu => by
          rcases hy with h3 | h3
          · refine HDis.out y h3 ?_
            obtain ⟨q, h4, h5⟩ := hu
            exact ⟨x :: q, by simpa using h4, by simpa using h5⟩
          · exact lp_dis hinj x hlx y h3 hu
        have HPZ : Hid (∀ y, (PX y ∨ LpP G own p left y) → y ∈ Z) := fun y hy => by
          rcases hy with h3 | h3
          · exact hPZ y h3
          · rcases h3 with h3 | ⟨_, _, _, _, h3⟩
            · exact hoz _ _ h3
            · exact hoz _ _ h3
        obtain ⟨m', hm'⟩ : ∃ m', m' + 1 = m := by
          have := HM.out (p ++ [x]) (by rw [hb']; simp)
          simp at this
          exact ⟨m - 1, by omega⟩
        clear hrun A4 T2 T4 hL4 hU24 hU12 hback hg4 hat4 hrg2 hg2 hkey hat hv hb' L2
        have hsz20 : w0.heap.size ≤ w2.heap.size := by omega
        clear hs2
        go_wp2_with fail
        have hHeld : Outs w2 w2.drew (fun y => v.ownBlock = some y) := Outs.of_below (Below.refl _ _).drew
        refine region_last (S := (fun w' => Outs w2 w' (fun y => v.ownBlock = some y))) (m := 6) (by kernel_rfl) ?_
        have hLast : LastL .any _ 6 := last_chain (ops := #[oTgWalk1, oTgWalk2, oTgWalk3, oTgWalk4, oTgWalk5, oTgWalk6, oTgWalk7]) [(0, 6), (1, 6), (5, 6), (2, 5), (4, 5), (3, 4)] (by kernel_rfl)
        refine tkM hLast 0 oTgWalk1 ?vv31_146_0 rfl (by kernel_rfl) (by kernel_rfl) (by kernel_rfl) (by rfl) (fun _ _ _ h => h) (by rfl) ?hy31_146_0 (by assumption) ?rest31_146_0
        case hy31_146_0 => (intro w hSw; unfold oTgWalk1; (try dsimp only at hSw); have q := hSw.cell _ _ k32 hne3; clear hSw; go_simp; all_goals with_reducible rfl)
        try simp only [oTgWalk1, Act.put, sA, sB, sC]
        refine tkM hLast 1 oTgWalk2 ?vv31_147_1 rfl (by kernel_rfl) (by kernel_rfl) (by kernel_rfl) (by rfl) (fun _ _ _ h => h) (by rfl) ?hy31_147_1 (by assumption) ?rest31_147_1
        case hy31_147_1 => (intro w hSw; unfold oTgWalk2; (try dsimp only at hSw); (try go_split_ands); go_simp; all_goals with_reducible rfl)
        try simp only [oTgWalk2, Act.put, sA, sB, sC]
        refine tkM hLast 2 oTgWalk3 ?vv31_147_2 rfl (by kernel_rfl) (by kernel_rfl) (by kernel_rfl) (by rfl) (fun _ _ _ h => h) (by rfl) ?hy31_147_2 (by assumption) ?rest31_147_2
        case hy31_147_2 => (intro w hSw; unfold oTgWalk3; (try dsimp only at hSw); (try go_split_ands); go_simp; all_goals with_reducible rfl)
        try simp only [oTgWalk3, Act.put, sA, sB, sC]
        refine tkM hLast 3 oTgWalk4 ?vv31_147_3 rfl (by kernel_rfl) (by kernel_rfl) (by kernel_rfl) (by rfl) (fun _ _ _ h => h) (by rfl) ?hy31_147_3 (by assumption) ?rest31_147_3
        case hy31_147_3 => (intro w hSw; unfold oTgWalk4; (try dsimp only at hSw); (try go_split_ands); go_simp; all_goals with_reducible rfl)
        try simp only [oTgWalk4, Act.put, sA, sB, sC]
        refine anyM_ready (rs := [4]) (by kernel_rfl) (by simp) ?_
        refine (AllM.cons (o := oTgWalk5) rfl (fun K hK => ?_) AllM.nil)
        unfold oTgWalk5
        go_simp
        refine anyM_go hK (by exact hHeld.more (below_alloc (Below.refl _ _) _)) (fun hHeld => ?_)
        clear hK K
        try simp only [oTgWalk5, Act.put, sA, sB, sC]
        refine anyM_ready (rs := [5]) (by kernel_rfl) (by simp) ?_
        refine (AllM.cons (o := oTgWalk6) rfl (fun K hK => ?_) AllM.nil)
        (refine step_bapp rfl _ _ _ rfl rfl rfl HRun.out ?_)
        refine anyM_go hK (by exact HU24.out) (fun hHeld => ?_)
        clear hK K
        try simp only [oTgWalk6, Act.put, sA, sB, sC]
        refine anyM_ready (rs := [6]) (by kernel_rfl) (by simp) ?_
        refine (AllM.cons (o := oTgWalk7) rfl (fun K hK => ?_) AllM.nil)
        unfold oTgWalk7
        go_simp
        (go_at_call 60; refine (ih.out m' hm' w4 (p ++ [x]) b' v' X2 R2 _ (fun q hq => by have := HM.out q hq; simp; omega) hpx1 HB'.out HT4.out HA4.out HG2.out HDS.out HPZ.out (by have := HU1.out.size; omega) HL4.out HK4.out hR2F hR2v' hR2p).mono ?_; rintro e w6 ⟨⟨X3, R3, rfl, hA3, hG3, hU3, hR3⟩, hL3⟩)
        refine hK.out _ _ (fun hne => absurd rfl hne) ?_
        clear hK K
        try simp only [oTgWalk7, Act.put, sA, sB, sC]
        refine anyM_done (by kernel_rfl) ?_ _
        clear hHeld
        have hF6 : ∀ y, v.ownBlock = some y → v'.ownBlock ≠ some y → w6.heap[y]? = w4.heap[y]? := fun y hy hn => hU3.block y (by have := (hLlt y hy).2; have := HU1.out.size; omega) (fun hr => hr.elim (fun h3 => hR2v y h3 hy) hn)
        have L6 : LevS B w6 v p := HBack.out w6 hL3 hF6
        have hFx : ∀ y, y < w2.heap.size → (R2 y ∨ v'.ownBlock = some y) → R2 y ∨ v.ownBlock = some y := fun y hy hr => hr.elim Or.inl (fun h3 => (hv'lt y h3).elim Or.inr (fun h4 => by omega))
        have hU26 : Outs w2 w6 (fun y => R2 y ∨ v.ownBlock = some y) := (HU24.out.mono (fun y _ hy => Or.inr hy)).trans hU3 hFx
        have hU16 : Outs w1 w6 (fun x => R1 x ∨ v.ownBlock = some x) := HU12.out.trans hU26 (fun y hy hr => hr.elim (fun h3 => (HR2.out y h3).elim Or.inl (fun h4 => by omega)) Or.inr)
        have hmr2 : ¬ (R2 mm ∨ v.ownBlock = some mm) := fun hr => hr.elim (fun h3 => hR2F _ h3 HMF.out) (fun h3 => hnF _ h3 HMF.out)
        have hrr2 : ¬ (R2 w1.heap.size ∨ v.ownBlock = some w1.heap.size) := fun hr => hr.elim (fun h3 => hR2r _ h3 rfl) (fun h3 => by have := (hLlt _ h3).2; have := HU1.out.size; omega)
        have hrg6 := ranges_keep HRG2.out (hU26.block mm (HRG2.out.owns.lt) hmr2) (hU26.block w1.heap.size HRG2.out.lt hrr2)
        have HRG6 := Lib.hid hrg6
        have HL6 := Lib.hid L6
        have HA6 := Lib.hid hA3
        have HU16 := Lib.hid hU16
        have HG6 : Hid (GoodY X3 (fun y => PX y ∨ LpP G own p (fun z => left z && !z.sameKey (.string x)) y)) := hG3.congr fun y => by rw [lp_step, or_assoc]
        have HR6 : Hid (∀ y, R3 y → R1 y ∨ w0.heap.size ≤ y) := fun y hy => (hR3 y hy).elim (HR2.out y) (fun h3 => Or.inr (by omega))
        have hsz6 : w0.heap.size ≤ w6.heap.size := by have := hU26.size; have := hU3.size; omega
        clear hA3 hG3 hU3 hR3 hL3 hF6 L6 hFx hU26 hU16 hrg6
        go_wp2_with fail
        go_roundw
        case rel => exact ⟨_, cnt2, X3, R3, HRG6.out, HA6.out, HG6.out, HU16.out, HR6.out, HL6.out, hsz6⟩
        case measure => rw [HRG6.out.left_eq, hrg.left_eq]; exact hlt
theorem fromOf_any (Acc : World → List α → (Nat → Prop) → Prop) (hAO : AccOk Acc) (own : Pth → α → Prop) (hinj : ∀ p q y, own p y → own q y → p = q) (B : Nat) (Z : List α) (pc pl : Nat) (p2 p3 : Nat) (hp2 : p2 < B) (hp3 : p3 < B) (hFB : ∀ x, G.F x → x < B) (hoz : ∀ p y, own p y → y ∈ Z) (hdep : ∀ q, G.bl 0 q ≠ none → q.length ≤ 1000 ∧ ∀ x ∈ q, x.length ≤ 1000)
    (HV : VisOkOf Acc own G t h ii B Z pc pl) : ∀ m, FrIHOf Acc own G t h ii B Z pc pl p2 p3 m
  | 0 => fromOf_one Acc hAO own hinj B Z pc pl p2 p3 hp2 hp3 hFB hoz hdep HV 0 (fun m' hm' => by omega)
  | m + 1 => fromOf_one Acc hAO own hinj B Z pc pl p2 p3 hp2 hp3 hFB hoz hdep HV (m + 1) (fun m' hm' => by
    obtain rfl : m' = m := by omega
    exact fromOf_any Acc hAO own hinj B Z pc pl p2 p3 hp2 hp3 hFB hoz hdep HV m')
end
end Go.Proofs.YtipdmfnkkkdlbaaGreatDoor
