/-
  keep: list, Find, All: what is wanted, in order, in a row of its own.
-/
import Derived.Test.YthhadjnffeadfaaGreatDoorKpIter
import Derived.Maps.AppendAt
set_option linter.unusedSimpArgs false
set_option linter.unusedVariables false
namespace Go.Proofs.YthhadjnffeadfaaGreatDoor
open Go.RowKit Go.Maps Go.Sort Go.Shelf
attribute [local go_sem] Oper.semAt_some
theorem mrow_shape {w : World} {B : Nat} {E : TypeId} {sz n : Nat} {v : Value} {xs : List Value} (h : w.ownsRow B E sz v n xs) : ∃ A c, v = .slice A n c ∧ (∀ b, v.ownBlock = some b ↔ A = some ⟨b, 0, none⟩) := by
  rcases h.2 with ⟨rfl, hn⟩ | ⟨g, cap, cur, rfl, _⟩
  · exact ⟨none, 0, by rw [hn], fun b => by simp [Value.ownBlock]⟩
  · exact ⟨_, cap, rfl, fun b => by simp [Value.ownBlock]⟩
theorem ms_append {w : World} {B : Nat} {v : Value} {X : List Ms} (h : w.ownsRow B 32 4 v X.length (flatM X)) (hB : B ≤ w.heap.size) (q : Nat) (y : Ms) (hq : MsAt w q 0 y) (hX : X.length ≤ 1000000) (ty : TypeId) :
    ∃ A' c' w', (Builtin.append_ #[22, 22] ty #[v, .slice (some ⟨q, 0, none⟩) 1 1]).run Tryz.prog w = .ok (.slice A' (X.length + 1) c') w' ∧ w'.ownsRow B 32 4 (.slice A' (X.length + 1) c') (X ++ [y]).length (flatM (X ++ [y])) ∧ w.grownBy w' v.ownBlock ∧ ((Value.slice A' (X.length + 1) c').ownBlock = v.ownBlock ∨ (Value.slice A' (X.length + 1) c').ownBlock = some w.heap.size) := by
  obtain ⟨i, hi, hz0, hz1, hz2⟩ := info_parts ms_info
  have hnews : ∀ (j : Nat) (u : Value), (flatM [y])[j]? = some u → w.cell? ((⟨q, 0, none⟩ : Addr).add j) = some u := by
    intro j u hu
    have hadd : ∀ j, (⟨q, 0, none⟩ : Addr).add j = ⟨q, 0 + j, none⟩ := fun j => by unfold Addr.add; split <;> simp_all
    rw [hadd, Nat.zero_add]
    obtain ⟨h0, h1, h2, h3⟩ := hq
    match j, hu with
    | 0, hu => simp [flatM, msV] at hu; subst hu; exact h0
    | 1, hu => simp [flatM, msV] at hu; subst hu; exact h1
    | 2, hu => simp [flatM, msV] at hu; subst hu; exact h2
    | 3, hu => simp [flatM, msV] at hu; subst hu; exact h3
    | j + 4, hu => simp [flatM, msV] at hu
  obtain ⟨v', w', hr, ho, hg, _, hat⟩ := run_append_own_at (P := Tryz.prog) w B 22 ty 32 i _ 4 40 Tryz.underlying22 hi hz0 hz1 hz2 rfl (by decide) v X.length _ h ⟨q, 0, none⟩ 1 1 (flatM [y]) (flatM_len [y]) hnews (flatM_one [y]) (by unfold maxLen; omega) (by omega) hB
  obtain ⟨A', c', rfl, _⟩ := mrow_shape ho
  refine ⟨A', c', w', hr, ?_, hg, hat⟩
  rw [flatM_app]
  have : (X ++ [y]).length = X.length + 1 := by simp
  rw [this]
  exact ho
theorem wpListIn_bapp {F : Fence} {n : Nat} {P : Program} {w w' : World} {ops : Array Oper} {rest : List Oper} {o : Oper} {a : Act} {Q : Exit → Act → World → Prop} (hg : o.guard = none) (t : TypeId) (s x : Operand)
    (hop : o.op = Op.call { callee := Callee.builtin Builtin.append, args := #[s, x], argTypes := #[t, t] }) {sv xv v' : Value} (hs : a.eval s = sv) (hx : a.eval x = xv) (hrun : (Builtin.append_ #[t, t] o.type #[sv, xv]).run P w = .ok v' w') (hK : wpListIn F n P ops Q rest (a.put o.dst v') w') :
    wpListIn F n P ops Q (o :: rest) a w := by
  refine wpListIn_plain hg fun K hK' => ?_
  unfold Oper.wpIn
  refine ⟨?_, ?_⟩
  · simp [Oper.about, hop, resolve, Target.leads, Sem.run_pure]
  · rw [Oper.semAt_plain F _ _ (by rw [hop]; intro c hc'; cases hc')]
    simp [execOp, hop, resolve, invoke, builtin, hs, hx, hrun, Result.andThen]
    exact hK' _ _ hK
section
variable {w w' : World} {t : Nat} {F : Nat → Prop} {L : List Ms}
/-- Messages that are told in memory of their own. -/
def OMP (w : World) (M : List Ms) (e : Ending) (w' : World) : Prop := ∃ v, e = .returned v ∧ OwnM w.heap.size w w' v M
theorem MbOk.below {mb : Option Nat} (h : MbOk w t L mb) (hb : Below w.heap.size w w') : MbOk w' t L mb := by
  cases mb with
  | none => exact h
  | some b => exact ⟨h.1, MM.below h.2 hb⟩
theorem MbOk.lt {mb : Option Nat} (h : MbOk w t L mb) (b : Nat) (e : mb = some b) : b < w.heap.size := by subst e; exact MM.lt h.2
theorem order_stops (n : Nat) (hn : 1 ≤ n) (p : Option Addr) (mb : Option Nat) (kb n0 bl : Nat) (hk : w.cell? ⟨kb, 0, none⟩ = some (.pointer p)) (hmsg : ∀ W, Below w.heap.size w W → Calls Tryz.prog 24 #[.pointer p] W fun e w' => e = .returned (.map mb) ∧ W = w') (hm : MbOk w t L mb) (hmb : ∀ b, mb = some b → b < n0 ∧ b ≠ bl) (hn0 : n0 ≤ w.heap.size) (hbl : bl < n0)
    (hcl : w.cell? ⟨bl, 0, none⟩ = some (.slice none 0 0)) (hS : Srt kB L) (hL : L.length ≤ 1000000) (LS : List MsS) (hLS : LS.map (·.1) = L) :
    SeqStopsK Fence.wide n Tryz.prog 42 #[.pointer (some ⟨kb, 0, none⟩)] EncM (KpL n0 bl) (fun ys => ys = LS) (fun pre => pre <+: LS) LS.length w := fun l J Jx W hW hJ _ hY h0 =>
  order_in n l kb n0 bl J Jx LS hLS W mb p ((hW.cell (World.block_lt_of_cell? _ _ hk)).trans hk) (hmsg W hW) (hm.below hW) hmb hn (Nat.le_trans hn0 hW.size) hbl ((hW.cell (World.block_lt_of_cell? _ _ hcl)).trans hcl) hS hL hJ hY h0
def valL (LS : List MsS) : List Ms := LS.map (·.1)
theorem valL_app (LS : List MsS) (x : MsS) : valL (LS ++ [x]) = valL LS ++ [x.1] := by simp [valL]
def wantM (p : List UInt8 → Bool) (L : List Ms) : List Ms := L.filter fun x => p x.1
theorem want_hit (p : List UInt8 → Bool) (pre : List Ms) {x : Ms} (h : p x.1 = true) : wantM p (pre ++ [x]) = wantM p pre ++ [x] := by simp [wantM, h]
theorem want_miss (p : List UInt8 → Bool) (pre : List Ms) {x : Ms} (h : p x.1 = false) : wantM p (pre ++ [x]) = wantM p pre := by simp [wantM, h]
theorem ownM_row (n0 B : Nat) (tt : TypeId) (p : List UInt8 → Bool) : Own (fun (pre : List MsS) W => ∃ v, Boxed W B tt v ∧ W.ownsRow n0 32 4 v (wantM p (valL pre)).length (flatM (wantM p (valL pre))) ∧ True) :=
  holdsRow_own n0 B tt 32 4 (fun pre => (wantM p (valL pre)).length) (fun pre => flatM (wantM p (valL pre))) (fun _ _ => True)
theorem bxM_own {β : Type} (B : Nat) (f : β → Ms) : Own (fun s W => BxM W B (f s)) := fun s X Y row hs hg hrow =>
  (hg.block B hs.lt (fun e' => by obtain ⟨o, ho, hc⟩ := hrow B e'.symm; rw [show X.heap[B]? = _ from hs] at ho; cases ho; cases hc)).trans hs
theorem not_rowOf_of {W : World} {bl b : Nat} {v : Value} (hc : W.cell? ⟨bl, 0, none⟩ = some v) : RowOf W bl b ↔ v.ownBlock = some b := by
  constructor
  · rintro ⟨v2, h1, h2⟩
    rw [hc] at h1
    cases h1
    exact h2
  · exact fun h => ⟨v, hc, h⟩
theorem kpL_below {n0 bl : Nat} {W W' : World} (hb : Below W.heap.size W W') (hbl : bl < W.heap.size) : KpL n0 bl W W' := by
  refine ⟨hb.size, fun b hlt _ _ _ => hb.block b hlt, fun b ⟨v, h1, h2⟩ => Or.inl ⟨v, ?_, h2⟩⟩
  rw [← h1]
  exact (hb.cell (p := ⟨bl, 0, none⟩) hbl).symm
theorem kpL_app {n0 bl : Nat} {W w6 w7 : World} {o : Obj} {v v' : Value} (hb6 : Below W.heap.size W w6) (hg : (w6.alloc o).grownBy w7 v.ownBlock) (hat : v'.ownBlock = v.ownBlock ∨ v'.ownBlock = some (w6.alloc o).heap.size) (hc : W.cell? ⟨bl, 0, none⟩ = some v) (hc7 : w7.cell? ⟨bl, 0, none⟩ = some v) : KpL n0 bl W (w7.setCell ⟨bl, 0, none⟩ v') := by
  have hs := hb6.size
  have hs2 := hg.size
  rw [World.size_alloc] at hs2
  refine ⟨by simp [World.setCell]; omega, fun b hlt hne hr _ => ?_, fun b hb => ?_⟩
  · refine (heap_setCell_other _ _ b _ hne).trans ((hg.block b (by simp; omega) (fun e => hr ((not_rowOf_of hc).2 e.symm))).trans ((Below.heap_alloc w6 o b (by omega)).trans (hb6.block b hlt)))
  · have h1 := (not_rowOf_of (World.cell?_setCell_same _ _ _ hc7)).1 hb
    rcases hat with h2 | h2
    · exact Or.inl ((not_rowOf_of hc).2 (h2.symm.trans h1))
    · rw [h2] at h1
      cases h1
      exact Or.inr (by simp; omega)

set_option maxRecDepth 100000 in
set_option maxHeartbeats 8000000 in
theorem list_all (ptr : Option Addr) (mb : Option Nat) (hmsg : Hid (∀ W, Below w.heap.size w W → Calls Tryz.prog 24 #[.pointer ptr] W fun e w' => e = .returned (.map mb) ∧ W = w')) (hm : MbOk w t L mb) (hS : Srt kB L) (hL : L.length ≤ 1000000) (hlt : ∀ x ∈ L, x.1.length ≤ 1000000) (p : List UInt8 → Bool)
    (hv : Hid (∀ W x, Below w.heap.size w W → x.length ≤ 1000000 → Calls Tryz.prog 26 #[.string ⟨x.toArray⟩] W fun e w' => e = .returned (.bool (p x)) ∧ Below W.heap.size W w')) :
    Calls Tryz.prog 25 #[.pointer ptr, .func (.func 26) #[] #[]] w fun e w' => OMP w (wantM p L) e w' := by
  refine (callsIn_wide (n := 9)).1 ?_
  have HM := Lib.hid hm
  have HS := Lib.hid hS
  obtain ⟨LS, hLS⟩ := mss_of L hlt
  have HLS := Lib.hid hLS
  have hn9 : 1 ≤ 9 := by omega
  clear hm hS hlt hLS
  refine callsIn_of_wp_marks Tryz.func25 rfl trivial ?_ rfl
  simp only [Tryz.ntmps25, List.size_toArray, List.length_cons, List.length_nil, Nat.reduceAdd, Nat.reduceSub, Array.replicate_succ, Array.replicate_zero, List.push_toArray, List.append_toArray, List.nil_append, List.cons_append]
  gi_wp2_with (refine ⟨trivial, ?_⟩; gi_at_call 35; refine (callsIn_wide.2 (inOrder_eq _ _)).mono ?_; rintro e w' ⟨rfl, rfl⟩)
  have bV := ((Boxed.new w 45 (.func (.func 26) #[] #[])).alloc (.cells #[.slice none 0 0] 22)).alloc (.cells #[.pointer ptr] 25)
  have bL := (Boxed.new (w.alloc (.cells #[.func (.func 26) #[] #[]] 45)) 22 (.slice none 0 0)).alloc (.cells #[.pointer ptr] 25)
  have bK := Boxed.new ((w.alloc (.cells #[.func (.func 26) #[] #[]] 45)).alloc (.cells #[.slice none 0 0] 22)) 25 (.pointer ptr)
  simp only [World.size_alloc] at bL bK
  have hB0 : Below w.heap.size w (((w.alloc (.cells #[.func (.func 26) #[] #[]] 45)).alloc (.cells #[.slice none 0 0] 22)).alloc (.cells #[.pointer ptr] 25)) := (((Below.refl _ w).alloc (Nat.le_refl _) _).alloc (by simp) _).alloc (by simp; omega) _
  have hsz : (((w.alloc (.cells #[.func (.func 26) #[] #[]] 45)).alloc (.cells #[.slice none 0 0] 22)).alloc (.cells #[.pointer ptr] 25)).heap.size = w.heap.size + 3 := by simp
  obtain ⟨W0, hW0⟩ : ∃ W0, (((w.alloc (.cells #[.func (.func 26) #[] #[]] 45)).alloc (.cells #[.slice none 0 0] 22)).alloc (.cells #[.pointer ptr] 25)) = W0 := ⟨_, rfl⟩
  rw [hW0] at bV bL bK hB0 hsz ⊢
  clear hW0
  refine wpIn_rangeFunc_ownH rfl hn9 (gf := 42) (lb := #[.pointer (some ⟨w.heap.size + 1 + 1, 0, none⟩)]) rfl trivial (enters_of Tryz.func42 (by kernel_rfl) rfl)
    (order_stops (t := t) (L := L) 8 (by omega) ptr mb (w.heap.size + 1 + 1) W0.heap.size (w.heap.size + 1) bK.cell (fun W hW => hmsg.out W (hB0.trans (hW.mono hB0.size))) (HM.out.below hB0) (fun b e => by have := MbOk.lt HM.out b e; exact ⟨by omega, by omega⟩) (Nat.le_refl _) (by omega) bL.cell HS.out hL LS HLS.out) KpL.t (KpL.b (by omega) (Nat.le_refl _)) (Below.refl _ _) (fun _ => rfl)
    (fun pre W => ((∃ v, Boxed W (w.heap.size + 1) 22 v ∧ W.ownsRow w.heap.size 32 4 v (wantM p (valL pre)).length (flatM (wantM p (valL pre))) ∧ True) ∧ Boxed W w.heap.size 45 (.func (.func 26) #[] #[])) ∧ Below w.heap.size w W)
    (fun _ _ _ => False)
    (OwnFrom.and (OwnFrom.and (Own.from (ownM_row w.heap.size (w.heap.size + 1) 22 p) _) (Own.from (boxed_own _ _ _) _)) (ownFrom_below (Nat.le_refl _) (by omega)))
    (fun _ _ _ _ _ hs _ _ => hs)
    ⟨⟨⟨_, bL, World.ownsRow_nil _ _ _ _, trivial⟩, bV⟩, hB0⟩
    (fun x a' W => ∃ Bx, w.heap.size + 1 < Bx ∧ BxM W Bx x.1 ∧ a' = { tmps := #[.pointer ptr, .func (.func 26) #[] #[], undef, .pointer (some ⟨w.heap.size, 0, none⟩), .slice none 0 0, .pointer (some ⟨w.heap.size + 1, 0, none⟩), .pointer (some ⟨Bx, 0, none⟩), .pointer ptr, .func (.func 42) #[] #[.pointer (some ⟨w.heap.size + 1 + 1, 0, none⟩)], .agg #[.string ⟨x.1.1.toArray⟩, .string ⟨x.1.2.1.toArray⟩, .int .u8 x.1.2.2.1, .bool x.1.2.2.2], undef, undef, undef, undef, undef, undef, undef, undef, undef], defers := [] })
    (fun x a' _ X Y row hs hg hr => by obtain ⟨Bx, h1, h2, h3⟩ := hs; exact ⟨Bx, h1, bxM_own Bx (fun (_ : Unit) => x.1) () X Y row h2 hg (fun r e => (hr r e).2), h3⟩)
    ?assign ?body ?done ?stop
  case assign =>
    rintro l pre x W K ⟨⟨⟨v, bL1, hrow, _⟩, bV1⟩, hB1⟩ hK
    have hBn := BxM.new W x.1
    unfold EncM
    gi_wp2
    exact hK _ _ ((KeepsOthers.alloc _ _).from _) (kpL_below (below_alloc (Below.refl _ _) _) bL1.lt) ⟨⟨⟨v, bL1.alloc _, hrow.alloc _, trivial⟩, bV1.alloc _⟩, hB1.alloc hB1.size _⟩ ⟨W.heap.size, bL1.lt, hBn, rfl⟩
  case body =>
    rintro l pre x a' W hl ⟨r, hr⟩ ⟨⟨⟨v, bL1, hrow, _⟩, bV1⟩, hB1⟩ ⟨Bx, hBx, bX, rfl⟩ hlt
    have cV := bV1.cell
    have x0 := bX.c0
    have hsW := hB1.size
    have hl1 := x.2
    have hlen : (wantM p (valL pre)).length ≤ 1000000 := by
      have h1 : (wantM p (valL pre)).length ≤ (valL pre).length := List.length_filter_le _ _
      have h2 : (valL pre).length = pre.length := List.length_map ..
      have h3 : LS.length = L.length := by rw [← HLS.out, List.length_map]
      omega
    have HV6 := Lib.hid (hv.out W x.1.1 hB1 hl1)
    have HB1 := Lib.hid hB1
    have HLX := Lib.hid bL1
    have HVX := Lib.hid bV1
    obtain ⟨⟨s1, p1, q1, b1⟩, hx1⟩ := x
    obtain ⟨A3, c3, rfl, _⟩ := mrow_shape hrow
    have HROW := Lib.hid hrow
    have HBX := Lib.hid bX
    have hcW := bL1.cell
    have HCW := Lib.hid hcW
    dsimp only at x0 hl1 HV6 ⊢
    clear bX hrow hB1 bV1 bL1 hcW
    cases hp : p s1 with
    | false =>
      rw [hp] at HV6
      gi_wp2_with (refine ⟨trivial, ?_⟩; gi_at_call 26; refine (CallsIn.inRound l (callsIn_wide.2 HV6.out)).mono ?_; rintro e w6 ⟨rfl, hb6⟩)
      exact ⟨KeepsFrom.of_grownBy (row := none) ⟨hb6.os, hb6.tape, hb6.output, hb6.size, fun k hk _ => hb6.block k hk⟩ (fun j e => by cases e), kpL_below hb6 HLX.out.lt,
        ⟨⟨⟨_, (hb6.block _ HLX.out.lt).trans HLX.out, by rw [valL_app, want_miss p _ hp]; exact own_below HROW.out hb6, trivial⟩, (hb6.block _ HVX.out.lt).trans HVX.out⟩, HB1.out.trans (hb6.mono HB1.out.size)⟩⟩
    | true =>
      rw [hp] at HV6
      gi_wp2_with (first
        | (refine ⟨trivial, ?_⟩; gi_at_call 26; refine (CallsIn.inRound l (callsIn_wide.2 HV6.out)).mono ?_; rintro e w6 ⟨rfl, hb6⟩; clear cV x0; have bL6 : Boxed w6 (w.heap.size + 1) 22 (.slice A3 (wantM p (valL pre)).length c3) := (hb6.block _ HLX.out.lt).trans HLX.out; have X6 := HBX.out.below hb6; obtain ⟨A4, c4, w7, hrun, hown7, hgr7, hat7⟩ := ms_append (w := w6.alloc (.cells #[.string ⟨s1.toArray⟩, .string ⟨p1.toArray⟩, .int .u8 q1, .bool b1] 32)) ((own_below HROW.out hb6).alloc _) (by have := hb6.size; simp; omega) w6.heap.size (s1, p1, q1, b1) (msAt_new w6 (s1, p1, q1, b1) _) hlen 22; have HRUN := Lib.hid hrun; have HOWN := Lib.hid hown7; have HGR := Lib.hid hgr7; have HAT := Lib.hid hat7; have HB6 := Lib.hid hb6; have HL6 := Lib.hid bL6; have cL6 := bL6.cell; have fL6 := bL6.frozen; have y0 := X6.c0; have y1 := X6.c1; have y2 := X6.c2; have y3 := X6.c3; dsimp only at y0 y1 y2 y3; have HL7 := Lib.hid ((bL6.alloc _).kept hgr7 (bL6.not_row (by decide) (own_below HROW.out hb6))); have cL7 := HL7.out.cell; have fL7 := HL7.out.frozen; clear hrun hown7 hgr7 hat7 hb6 bL6 X6)
        | (gi_at_builtin; refine wpListIn_bapp rfl _ _ _ rfl rfl rfl HRUN.out ?_))
      have hb6 := HB6.out
      obtain ⟨_, a2, a3, a4, a5⟩ := HL6.out.appended (by decide) (own_below HROW.out hb6) (by have := hb6.size; omega) (Nat.le_succ _) HOWN.out HGR.out
      have bV6 : Boxed w6 w.heap.size 45 (.func (.func 26) #[] #[]) := (hb6.block _ HVX.out.lt).trans HVX.out
      have bV7 := ((bV6.alloc _).kept HGR.out (bV6.not_row (by decide) (own_below HROW.out hb6))).other (B' := w.heap.size + 1) (by omega) (.slice A4 ((wantM p (valL pre)).length + 1) c4)
      exact ⟨(KeepsFrom.of_grownBy (row := none) ⟨hb6.os, hb6.tape, hb6.output, hb6.size, fun k hk _ => hb6.block k hk⟩ (fun j e => by cases e)).trans (a4.from _), kpL_app hb6 HGR.out HAT.out HCW.out cL7,
        ⟨⟨⟨_, a2, by rw [valL_app, want_hit p _ hp]; exact a3, trivial⟩, bV7⟩, HB1.out.trans ((hb6.mono HB1.out.size).trans a5)⟩⟩
  case done =>
    rintro D ys W hD rfl ⟨⟨⟨v, bL1, hrow, _⟩, bV1⟩, hB1⟩ hK
    have hc := bL1.cell
    gi_wp2
    refine ⟨by simp, .inl ⟨_, _, rfl, run_takeDeferred hK, ?_⟩⟩
    exact ⟨_, results_tmp rfl _ _ _, v, rfl, by rw [← HLS.out]; exact ownsRow_putObj hrow _ hK rfl, hB1.trans (belowK_b (w := w) (Nat.le_refl _) W D _ _ (by omega) hK rfl rfl), by have := hB1.size; simp; omega⟩
  case stop =>
    rintro D c pre W _ _ h _
    exact h.elim

set_option maxRecDepth 100000 in
set_option maxHeartbeats 8000000 in
theorem list_find (ptr : Option Addr) (mb : Option Nat) (hmsg : Hid (∀ W, Below w.heap.size w W → Calls Tryz.prog 24 #[.pointer ptr] W fun e w' => e = .returned (.map mb) ∧ W = w')) (hm : MbOk w t L mb) (hS : Srt kB L) (hL : L.length ≤ 1000000) (hlt : ∀ x ∈ L, x.1.length ≤ 1000000) (p : List UInt8 → Bool) (pf : Nat)
    (hv : Hid (∀ W x, Below w.heap.size w W → x.length ≤ 1000000 → Calls Tryz.prog 27 #[.string ⟨x.toArray⟩, .pointer (some ⟨pf, 0, none⟩)] W fun e w' => e = .returned (.bool (p x)) ∧ Below W.heap.size W w')) :
    Calls Tryz.prog 25 #[.pointer ptr, .func (.func 27) #[] #[.pointer (some ⟨pf, 0, none⟩)]] w fun e w' => OMP w (wantM p L) e w' := by
  refine (callsIn_wide (n := 9)).1 ?_
  have HM := Lib.hid hm
  have HS := Lib.hid hS
  obtain ⟨LS, hLS⟩ := mss_of L hlt
  have HLS := Lib.hid hLS
  have hn9 : 1 ≤ 9 := by omega
  clear hm hS hlt hLS
  refine callsIn_of_wp_marks Tryz.func25 rfl trivial ?_ rfl
  simp only [Tryz.ntmps25, List.size_toArray, List.length_cons, List.length_nil, Nat.reduceAdd, Nat.reduceSub, Array.replicate_succ, Array.replicate_zero, List.push_toArray, List.append_toArray, List.nil_append, List.cons_append]
  gi_wp2_with (refine ⟨trivial, ?_⟩; gi_at_call 35; refine (callsIn_wide.2 (inOrder_eq _ _)).mono ?_; rintro e w' ⟨rfl, rfl⟩)
  have bV := ((Boxed.new w 45 (.func (.func 27) #[] #[.pointer (some ⟨pf, 0, none⟩)])).alloc (.cells #[.slice none 0 0] 22)).alloc (.cells #[.pointer ptr] 25)
  have bL := (Boxed.new (w.alloc (.cells #[.func (.func 27) #[] #[.pointer (some ⟨pf, 0, none⟩)]] 45)) 22 (.slice none 0 0)).alloc (.cells #[.pointer ptr] 25)
  have bK := Boxed.new ((w.alloc (.cells #[.func (.func 27) #[] #[.pointer (some ⟨pf, 0, none⟩)]] 45)).alloc (.cells #[.slice none 0 0] 22)) 25 (.pointer ptr)
  simp only [World.size_alloc] at bL bK
  have hB0 : Below w.heap.size w (((w.alloc (.cells #[.func (.func 27) #[] #[.pointer (some ⟨pf, 0, none⟩)]] 45)).alloc (.cells #[.slice none 0 0] 22)).alloc (.cells #[.pointer ptr] 25)) := (((Below.refl _ w).alloc (Nat.le_refl _) _).alloc (by simp) _).alloc (by simp; omega) _
  have hsz : (((w.alloc (.cells #[.func (.func 27) #[] #[.pointer (some ⟨pf, 0, none⟩)]] 45)).alloc (.cells #[.slice none 0 0] 22)).alloc (.cells #[.pointer ptr] 25)).heap.size = w.heap.size + 3 := by simp
  obtain ⟨W0, hW0⟩ : ∃ W0, (((w.alloc (.cells #[.func (.func 27) #[] #[.pointer (some ⟨pf, 0, none⟩)]] 45)).alloc (.cells #[.slice none 0 0] 22)).alloc (.cells #[.pointer ptr] 25)) = W0 := ⟨_, rfl⟩
  rw [hW0] at bV bL bK hB0 hsz ⊢
  clear hW0
  refine wpIn_rangeFunc_ownH rfl hn9 (gf := 42) (lb := #[.pointer (some ⟨w.heap.size + 1 + 1, 0, none⟩)]) rfl trivial (enters_of Tryz.func42 (by kernel_rfl) rfl)
    (order_stops (t := t) (L := L) 8 (by omega) ptr mb (w.heap.size + 1 + 1) W0.heap.size (w.heap.size + 1) bK.cell (fun W hW => hmsg.out W (hB0.trans (hW.mono hB0.size))) (HM.out.below hB0) (fun b e => by have := MbOk.lt HM.out b e; exact ⟨by omega, by omega⟩) (Nat.le_refl _) (by omega) bL.cell HS.out hL LS HLS.out) KpL.t (KpL.b (by omega) (Nat.le_refl _)) (Below.refl _ _) (fun _ => rfl)
    (fun pre W => ((∃ v, Boxed W (w.heap.size + 1) 22 v ∧ W.ownsRow w.heap.size 32 4 v (wantM p (valL pre)).length (flatM (wantM p (valL pre))) ∧ True) ∧ Boxed W w.heap.size 45 (.func (.func 27) #[] #[.pointer (some ⟨pf, 0, none⟩)])) ∧ Below w.heap.size w W)
    (fun _ _ _ => False)
    (OwnFrom.and (OwnFrom.and (Own.from (ownM_row w.heap.size (w.heap.size + 1) 22 p) _) (Own.from (boxed_own _ _ _) _)) (ownFrom_below (Nat.le_refl _) (by omega)))
    (fun _ _ _ _ _ hs _ _ => hs)
    ⟨⟨⟨_, bL, World.ownsRow_nil _ _ _ _, trivial⟩, bV⟩, hB0⟩
    (fun x a' W => ∃ Bx, w.heap.size + 1 < Bx ∧ BxM W Bx x.1 ∧ a' = { tmps := #[.pointer ptr, .func (.func 27) #[] #[.pointer (some ⟨pf, 0, none⟩)], undef, .pointer (some ⟨w.heap.size, 0, none⟩), .slice none 0 0, .pointer (some ⟨w.heap.size + 1, 0, none⟩), .pointer (some ⟨Bx, 0, none⟩), .pointer ptr, .func (.func 42) #[] #[.pointer (some ⟨w.heap.size + 1 + 1, 0, none⟩)], .agg #[.string ⟨x.1.1.toArray⟩, .string ⟨x.1.2.1.toArray⟩, .int .u8 x.1.2.2.1, .bool x.1.2.2.2], undef, undef, undef, undef, undef, undef, undef, undef, undef], defers := [] })
    (fun x a' _ X Y row hs hg hr => by obtain ⟨Bx, h1, h2, h3⟩ := hs; exact ⟨Bx, h1, bxM_own Bx (fun (_ : Unit) => x.1) () X Y row h2 hg (fun r e => (hr r e).2), h3⟩)
    ?assign ?body ?done ?stop
  case assign =>
    rintro l pre x W K ⟨⟨⟨v, bL1, hrow, _⟩, bV1⟩, hB1⟩ hK
    have hBn := BxM.new W x.1
    unfold EncM
    gi_wp2
    exact hK _ _ ((KeepsOthers.alloc _ _).from _) (kpL_below (below_alloc (Below.refl _ _) _) bL1.lt) ⟨⟨⟨v, bL1.alloc _, hrow.alloc _, trivial⟩, bV1.alloc _⟩, hB1.alloc hB1.size _⟩ ⟨W.heap.size, bL1.lt, hBn, rfl⟩
  case body =>
    rintro l pre x a' W hl ⟨r, hr⟩ ⟨⟨⟨v, bL1, hrow, _⟩, bV1⟩, hB1⟩ ⟨Bx, hBx, bX, rfl⟩ hlt
    have cV := bV1.cell
    have x0 := bX.c0
    have hsW := hB1.size
    have hl1 := x.2
    have hlen : (wantM p (valL pre)).length ≤ 1000000 := by
      have h1 : (wantM p (valL pre)).length ≤ (valL pre).length := List.length_filter_le _ _
      have h2 : (valL pre).length = pre.length := List.length_map ..
      have h3 : LS.length = L.length := by rw [← HLS.out, List.length_map]
      omega
    have HV6 := Lib.hid (hv.out W x.1.1 hB1 hl1)
    have HB1 := Lib.hid hB1
    have HLX := Lib.hid bL1
    have HVX := Lib.hid bV1
    obtain ⟨⟨s1, p1, q1, b1⟩, hx1⟩ := x
    obtain ⟨A3, c3, rfl, _⟩ := mrow_shape hrow
    have HROW := Lib.hid hrow
    have HBX := Lib.hid bX
    have hcW := bL1.cell
    have HCW := Lib.hid hcW
    dsimp only at x0 hl1 HV6 ⊢
    clear bX hrow hB1 bV1 bL1 hcW
    cases hp : p s1 with
    | false =>
      rw [hp] at HV6
      gi_wp2_with (refine ⟨trivial, ?_⟩; gi_at_call 27; refine (CallsIn.inRound l (callsIn_wide.2 HV6.out)).mono ?_; rintro e w6 ⟨rfl, hb6⟩)
      exact ⟨KeepsFrom.of_grownBy (row := none) ⟨hb6.os, hb6.tape, hb6.output, hb6.size, fun k hk _ => hb6.block k hk⟩ (fun j e => by cases e), kpL_below hb6 HLX.out.lt,
        ⟨⟨⟨_, (hb6.block _ HLX.out.lt).trans HLX.out, by rw [valL_app, want_miss p _ hp]; exact own_below HROW.out hb6, trivial⟩, (hb6.block _ HVX.out.lt).trans HVX.out⟩, HB1.out.trans (hb6.mono HB1.out.size)⟩⟩
    | true =>
      rw [hp] at HV6
      gi_wp2_with (first
        | (refine ⟨trivial, ?_⟩; gi_at_call 27; refine (CallsIn.inRound l (callsIn_wide.2 HV6.out)).mono ?_; rintro e w6 ⟨rfl, hb6⟩; clear cV x0; have bL6 : Boxed w6 (w.heap.size + 1) 22 (.slice A3 (wantM p (valL pre)).length c3) := (hb6.block _ HLX.out.lt).trans HLX.out; have X6 := HBX.out.below hb6; obtain ⟨A4, c4, w7, hrun, hown7, hgr7, hat7⟩ := ms_append (w := w6.alloc (.cells #[.string ⟨s1.toArray⟩, .string ⟨p1.toArray⟩, .int .u8 q1, .bool b1] 32)) ((own_below HROW.out hb6).alloc _) (by have := hb6.size; simp; omega) w6.heap.size (s1, p1, q1, b1) (msAt_new w6 (s1, p1, q1, b1) _) hlen 22; have HRUN := Lib.hid hrun; have HOWN := Lib.hid hown7; have HGR := Lib.hid hgr7; have HAT := Lib.hid hat7; have HB6 := Lib.hid hb6; have HL6 := Lib.hid bL6; have cL6 := bL6.cell; have fL6 := bL6.frozen; have y0 := X6.c0; have y1 := X6.c1; have y2 := X6.c2; have y3 := X6.c3; dsimp only at y0 y1 y2 y3; have HL7 := Lib.hid ((bL6.alloc _).kept hgr7 (bL6.not_row (by decide) (own_below HROW.out hb6))); have cL7 := HL7.out.cell; have fL7 := HL7.out.frozen; clear hrun hown7 hgr7 hat7 hb6 bL6 X6)
        | (gi_at_builtin; refine wpListIn_bapp rfl _ _ _ rfl rfl rfl HRUN.out ?_))
      have hb6 := HB6.out
      obtain ⟨_, a2, a3, a4, a5⟩ := HL6.out.appended (by decide) (own_below HROW.out hb6) (by have := hb6.size; omega) (Nat.le_succ _) HOWN.out HGR.out
      have bV6 : Boxed w6 w.heap.size 45 (.func (.func 27) #[] #[.pointer (some ⟨pf, 0, none⟩)]) := (hb6.block _ HVX.out.lt).trans HVX.out
      have bV7 := ((bV6.alloc _).kept HGR.out (bV6.not_row (by decide) (own_below HROW.out hb6))).other (B' := w.heap.size + 1) (by omega) (.slice A4 ((wantM p (valL pre)).length + 1) c4)
      exact ⟨(KeepsFrom.of_grownBy (row := none) ⟨hb6.os, hb6.tape, hb6.output, hb6.size, fun k hk _ => hb6.block k hk⟩ (fun j e => by cases e)).trans (a4.from _), kpL_app hb6 HGR.out HAT.out HCW.out cL7,
        ⟨⟨⟨_, a2, by rw [valL_app, want_hit p _ hp]; exact a3, trivial⟩, bV7⟩, HB1.out.trans ((hb6.mono HB1.out.size).trans a5)⟩⟩
  case done =>
    rintro D ys W hD rfl ⟨⟨⟨v, bL1, hrow, _⟩, bV1⟩, hB1⟩ hK
    have hc := bL1.cell
    gi_wp2
    refine ⟨by simp, .inl ⟨_, _, rfl, run_takeDeferred hK, ?_⟩⟩
    exact ⟨_, results_tmp rfl _ _ _, v, rfl, by rw [← HLS.out]; exact ownsRow_putObj hrow _ hK rfl, hB1.trans (belowK_b (w := w) (Nat.le_refl _) W D _ _ (by omega) hK rfl rfl), by have := hB1.size; simp; omega⟩
  case stop =>
    rintro D c pre W _ _ h _
    exact h.elim
end
end Go.Proofs.YthhadjnffeadfaaGreatDoor
