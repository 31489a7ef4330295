/-
  ids' statements: the ids that are taken, gathered by a range over All; takes; same; again.
-/
import Derived.Test.YtckgglgecpmikaaDoorIdIter
import Derived.Maps.AppendAt
set_option linter.unusedSimpArgs false
set_option linter.unusedVariables false
namespace Go.Proofs.YtckgglgecpmikaaDoor
open Go.RowKit Go.Shelf
attribute [local go_sem] Oper.semAt_some

def u16V (x : Nat) : Value := .int .u16 (x : Int)
theorem info16 : (Tryd.prog.info? 25).map (fun i => (i.zero, i.size, i.bytes)) = some (some (.int .u16 0), 1, 2) := by kernel_rfl
theorem seq_eqin (d : Nat) (f : Fn) (a b : Array Value) (W : World) : (Op.equalIn (d + 1) 47 (.func f a b) .nilFunc).run Tryd.prog W = .ok false W := by
  simp [Op.equalIn, run_underlying Tryd.underlying47]
@[go_sem] theorem seq_nil (f : Fn) (a b : Array Value) (W : World) : (binOp .eql 47 (.func f a b) .nilFunc).run Tryd.prog W = .ok (.bool false) W := by
  have h : (Op.equal 47 (.func f a b) .nilFunc).run Tryd.prog W = .ok false W := seq_eqin 9999 f a b W
  simp only [binOp]
  simp [h]
def valN (LS : List N16) : List Nat := LS.map (·.1)
theorem valN_app (LS : List N16) (x : N16) : valN (LS ++ [x]) = valN LS ++ [x.1] := by simp [valN]
theorem sg_lt {w : World} {bx : Nat} {A : Option Addr} {L : List Nat} (h : SQ w bx A L) (hA : ∀ b o, A = some ⟨b, o, none⟩ → b < w.heap.size) (hG : GloT w) (b : Nat) (hb : SG bx A b) : b < w.heap.size := by
  rcases hb with rfl | ⟨o, e⟩ | rfl
  · exact h.lt
  · exact hA b o e
  · exact World.block_lt_of_cell? _ _ (hG 0 (by decide))
/-- A slice of ids that is told. -/
def U16P (w : World) (L : List Nat) (e : Ending) (w' : World) : Prop :=
  ∃ A c, e = .returned (.tuple #[.slice A L.length c, .bool true]) ∧ Vals w' A L.length (L.map u16V) ∧ (A = none → c = 0) ∧ Below w.heap.size w w'
/-- What a round that appends keeps. -/
theorem kpG_app {G : Nat → Prop} {W w7 : World} {o : Obj} {v v' : Value} {B : Nat} (hG : ∀ b, G b → b < W.heap.size ∧ b ≠ B ∧ v.ownBlock ≠ some b) (hg : (W.alloc o).grownBy w7 v.ownBlock) : KpG G W (w7.setCell ⟨B, 0, none⟩ v') := by
  have hs := hg.size
  rw [World.size_alloc] at hs
  refine ⟨by simp [World.setCell]; omega, fun b hb => ?_⟩
  obtain ⟨h1, h2, h3⟩ := hG b hb
  exact (heap_setCell_other w7 ⟨B, 0, none⟩ b _ h2).trans ((hg.block b (by simp; omega) (fun e => h3 e.symm)).trans (Below.heap_alloc W o b h1))
set_option maxRecDepth 100000 in
set_option maxHeartbeats 8000000 in
theorem all_any {w : World} {p : Option Addr} {L : List Nat} (hAll : ∀ W, Below w.heap.size w W → Calls Tryd.prog 21 #[.pointer p] W fun e w' => AllP W L e w') (hG : GloT w) :
    Calls Tryd.prog 14 #[.pointer p] w fun e w' => U16P w L e w' := by
  refine (callsIn_wide (n := 9)).1 ?_
  have HG := Lib.hid hG
  have HALL := Lib.hid (hAll (w.alloc (.cells #[.slice none 0 0] 30)) (below_alloc (Below.refl _ _) _))
  have hn9 : 1 ≤ 9 := by omega
  clear hG hAll
  refine callsIn_of_wp_marks Tryd.func14 rfl trivial ?_ rfl
  simp only [Tryd.ntmps14, List.size_toArray, List.length_cons, List.length_nil, Nat.reduceAdd, Nat.reduceSub, Array.replicate_succ, Array.replicate_zero, List.push_toArray, List.append_toArray, List.nil_append, List.cons_append]
  gi_wp2_with (refine ⟨trivial, ?_⟩; gi_at_call 21; refine (callsIn_wide.2 HALL.out).mono ?_; rintro e W0 ⟨bx, A, rfl, hSQ, hb0, hbx, hA⟩; have HSQ := Lib.hid hSQ; have HB0 := Lib.hid hb0; have HA := Lib.hid hA; clear hSQ hb0 hA)
  have hsz : (w.alloc (.cells #[.slice none 0 0] 30)).heap.size = w.heap.size + 1 := by simp
  have hbA : Below w.heap.size w (w.alloc (.cells #[.slice none 0 0] 30)) := below_alloc (Below.refl _ _) _
  have hB0 : Below w.heap.size w W0 := below_more hbA HB0.out
  have hs0 := HB0.out.size
  rw [hsz] at hs0 hbx
  have bL : Boxed W0 w.heap.size 30 (.slice none 0 0) := (HB0.out.block _ (by simp)).trans (Boxed.new w 30 (.slice none 0 0))
  have hG0 := HG.out.below hB0
  have hsg := sg_lt HSQ.out (fun b o e => (HA.out b o e).2) hG0
  obtain ⟨LS, hLS⟩ := n16_of L HSQ.out.pos
  have hll : LS.length = L.length := by rw [← hLS, List.length_map]
  have hlL := HSQ.out.len
  have HLS := Lib.hid hLS
  have hSB : ∀ b, SG bx A b → b < W0.heap.size ∧ b ≠ w.heap.size := fun b hb => ⟨hsg b hb, by
    rcases hb with rfl | ⟨o, e⟩ | rfl
    · omega
    · have := (HA.out b o e).1; rw [hsz] at this; omega
    · have := World.block_lt_of_cell? _ _ (HG.out 0 (by decide)); simp only at this; omega⟩
  have HSB := Lib.hid hSB
  have hgt := hsz
  clear hSB hLS
  refine wpIn_rangeFunc_ownH rfl hn9 (gf := 27) (lb := #[.pointer (some ⟨bx, 0, none⟩)]) rfl trivial (enters_of Tryd.func27 (by kernel_rfl) rfl)
    (seq_stops 8 (by omega) HSQ.out hG0 LS HLS.out) KpG.t (KpG.b hsg) (Below.refl _ _) (fun _ => rfl)
    (fun pre W => (∃ v, Boxed W w.heap.size 30 v ∧ W.ownsRow w.heap.size 25 1 v (valN pre).length ((valN pre).map u16V) ∧ ∀ b, v.ownBlock = some b → W0.heap.size ≤ b) ∧ Below w.heap.size w W ∧ KpG (fun _ => False) W0 W)
    (fun _ _ _ => False)
    ?hI
    (fun _ _ _ _ _ hs _ _ => hs)
    ⟨⟨_, bL, World.ownsRow_nil _ _ _ _, fun b e => by cases e⟩, hB0, KpG.refl _⟩
    (fun x a' W => a' = { tmps := #[.pointer p, undef, .slice none 0 0, .bool false, .pointer (some ⟨w.heap.size, 0, none⟩), .func (.func 27) #[] #[.pointer (some ⟨bx, 0, none⟩)], .int .u16 (x.1 : Nat), .pointer p, .func (.func 27) #[] #[.pointer (some ⟨bx, 0, none⟩)], .func (.func 27) #[] #[.pointer (some ⟨bx, 0, none⟩)], .bool false, .func (.func 27) #[] #[.pointer (some ⟨bx, 0, none⟩)], .int .u16 (x.1 : Nat), undef, undef, undef, undef, undef], defers := [] })
    (fun x a' _ X Y row hs hg hr => hs)
    ?assign ?body ?done ?stop
  case hI => exact OwnFrom.and (Own.from (holdsRow_own w.heap.size w.heap.size 30 25 1 (fun pre => (valN pre).length) (fun pre => (valN pre).map u16V) (fun _ v => ∀ b, v.ownBlock = some b → W0.heap.size ≤ b)) _) (OwnFrom.and (ownFrom_below (Nat.le_refl _) (by omega)) (fun s X Y row hs hg hr => ⟨Nat.le_trans hs.size hg.size, fun b hb => hb.elim⟩))
  case assign =>
    rintro l pre x W K hI hK
    unfold EncN
    gi_wp2
    exact hK _ _ (KeepsFrom.refl _ _) (KpG.refl _) hI rfl
  case body =>
    rintro l pre x a' W hl ⟨r, hr⟩ ⟨⟨v, bL1, hrow, hvb⟩, hB1, hK1⟩ rfl hlt
    have hpl : (valN pre).length ≤ 65535 := by have : (valN pre).length = pre.length := List.length_map ..; omega
    have hKW := hK1.size
    obtain ⟨A3, c3, rfl, _, _, _, _⟩ := vrow_form hrow
    have hnew : (W.alloc (.cells #[.int .u16 (x.1 : Nat)] 25)).cell? ⟨W.heap.size, 0, none⟩ = some (.int .u16 (x.1 : Nat)) := World.cell?_alloc_new _ _ _ _
    obtain ⟨A', c', w7, hrun, hown7, hgr, hat⟩ := v_append (P := Tryd.prog) (T := 30) (ty := 30) (hrow.alloc (.cells #[.int .u16 (x.1 : Nat)] 25)) (by have := hB1.size; simp; omega) Tryd.underlying30 info16 rfl (by decide) (some ⟨W.heap.size, 0, none⟩) 1 1 [u16V x.1] (Vals.one hnew) (by simp [u16V, Value.oneCell']) (fun e => by cases e) (by omega)
    obtain ⟨b7, a2, a3, a4, a5⟩ := bL1.appended (by decide) hrow hB1.size (Nat.le_refl _) hown7 hgr
    have cW := bL1.cell
    have c7 := b7.cell
    have f7 := b7.frozen
    have HRUN := Lib.hid hrun
    have HGR := Lib.hid hgr
    have HAT := Lib.hid hat
    have H2 := Lib.hid a2
    have H3 := Lib.hid a3
    have H4 := Lib.hid a4
    have H5 := Lib.hid a5
    have HVB := Lib.hid hvb
    have HB1 := Lib.hid hB1
    clear hrun hgr hat a2 a3 a4 a5 hown7 hvb hB1 hrow bL1 b7 hK1
    gi_wp2_with (gi_at_builtin; refine wpListIn_vapp rfl _ _ _ rfl rfl rfl HRUN.out ?_)
    refine ⟨H4.out.from _, kpG_app (fun b hb => ?_) HGR.out, ⟨⟨_, H2.out, ?_, fun b hb => ?_⟩, HB1.out.trans H5.out, ⟨?_, fun b hb => hb.elim⟩⟩⟩
    · obtain ⟨h1, h2⟩ := HSB.out b hb
      exact ⟨by omega, h2, fun e => by have := HVB.out b e; omega⟩
    · rw [valN_app, List.length_append, List.map_append]; exact H3.out
    · rcases HAT.out with h | h
      · exact HVB.out b (h.symm.trans hb)
      · rw [h] at hb
        cases hb
        simp; omega
    · have := HGR.out.size; simp [World.setCell] at this ⊢; omega
  case done =>
    rintro D ys W hD rfl ⟨⟨v, bL1, hrow, hvb⟩, hB1, hK1⟩ hK
    have hc := bL1.cell
    gi_wp2
    refine ⟨by simp, .inl ⟨_, _, rfl, run_takeDeferred hK, ?_⟩⟩
    obtain ⟨A3, c3, rfl, _, hV, hc3, _⟩ := vrow_form hrow
    have hvl : valN ys = L := HLS.out
    rw [hvl] at hV
    refine ⟨_, results_tmp2 rfl _ _ _, A3, c3, ?_, ?_, hc3, hB1.trans (belowK_b (w := w) (Nat.le_refl _) W D _ _ (by omega) hK rfl rfl)⟩
    · rw [hvl]; rfl
    · refine hV.keep fun b o hn e hl => World.putObj_heap_other (fun e2 => ?_)
      have hbD : D = b := by omega
      obtain ⟨b1, o1, y, e1, _, hcy⟩ := hV.at_ hn
      rw [e] at e1; cases e1
      obtain ⟨cs, t, fr, hcs⟩ : ∃ cs t fr, W.heap[b]? = some (.cells cs t fr) := by
        unfold World.cell? at hcy
        dsimp only at hcy
        cases hh : W.heap[b]? with
        | none => rw [hh] at hcy; cases hcy
        | some ob => cases ob <;> first | exact ⟨_, _, _, rfl⟩ | (rw [hh] at hcy; cases hcy)
      rw [hbD, hcs] at hK; cases hK
  case stop =>
    rintro D c pre W _ _ h _
    exact h.elim
end Go.Proofs.YtckgglgecpmikaaDoor
