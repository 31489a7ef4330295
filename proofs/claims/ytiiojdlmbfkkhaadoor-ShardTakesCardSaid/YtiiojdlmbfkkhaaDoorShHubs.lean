/-
  shard: the hubs of a filter: a slice of numbers that the call makes.
-/
import Derived.Test.YtiiojdlmbfkkhaaDoorShWalks
set_option linter.unusedSimpArgs false
set_option linter.unusedVariables false
namespace Go.Proofs.YtiiojdlmbfkkhaaDoor
open Go.RowKit

theorem infoI : (Tryd.prog.info? 3).map (fun i => (i.zero, i.size, i.bytes)) = some (some (.int .i64 0), 1, 8) := by kernel_rfl
section
variable {E : TypeId} {B : Nat} {w0 wr : World} {v : Value} {xs : List Int}
theorem OwnI.alloc (h : OwnI E B w0 wr v xs) (o : Obj) : OwnI E B w0 (wr.alloc o) v xs := ⟨h.1.alloc o, h.2.1.alloc h.2.2 o, Nat.le_trans h.2.2 (by simp)⟩
theorem OwnI.drewN (h : OwnI E B w0 wr v xs) (n : Nat) : OwnI E B w0 (wr.drewN n) v xs := ⟨h.1, below_drewN h.2.1 n, h.2.2⟩
theorem OwnI.more {w' : World} (h : OwnI E B w0 wr v xs) (hb : Below wr.heap.size wr w') : OwnI E B w0 w' v xs :=
  ⟨own_below h.1 hb, h.2.1.trans (hb.mono h.2.2), Nat.le_trans h.2.2 hb.size⟩
theorem OwnI.lit1 (h : Below B w0 wr) (hB : B ≤ wr.heap.size) (x : Int) : OwnI E B w0 (wr.alloc (.cells #[.int .i64 x] E)) (.slice (some ⟨wr.heap.size, 0, none⟩) 1 1) [x] :=
  ⟨World.ownsRow_lit wr #[.int .i64 x] 1 hB (by unfold maxLen; omega) rfl, h.alloc hB _, Nat.le_trans hB (by simp)⟩
theorem wpList_imake {P : Program} {ops : Array Oper} {rest : List Oper} {o : Oper} {a : Act} {Q : Exit → Act → World → Prop} (hgd : o.guard = none) (x y : Operand) (T : TypeId)
    (ho : o.op = Op.makeSlice T x y)
    (hT : P.underlying T = some (.slice E)) (hE : (P.info? E).map (fun i => (i.zero, i.size, i.bytes)) = some (some (.int .i64 0), 1, 8))
    (C : Int) (n : Nat) (hx : a.eval x = .int .i64 0) (hy : a.eval y = .int .i64 C) (hC : C = (n : Int)) (hn : n ≤ 1000000000) (hbel : Below B w0 wr) (hB : B ≤ wr.heap.size)
    (h : ∀ v' w', OwnI E B w0 w' v' [] → wpList P ops Q rest (a.put o.dst v') w') : wpList P ops Q (o :: rest) a wr := by
  obtain ⟨i, hi, hz0, hz1, hz2⟩ := info_parts hE
  refine wpList_make_own wr hgd x y T ho B E i (.int .i64 0) 1 hT hi hz0 hz1 .i64 .i64 C n hx hy hC (by rw [hz2]; omega) (by unfold maxLen; omega) hB ?_
  intro w' hown hgr
  exact h _ w' ⟨hown, hbel.grown hgr hB (fun k hk => by cases hk), Nat.le_trans hB hgr.size⟩
end
/-- A slice of numbers that is told. -/
def IVP (w : World) (L : List Int) (e : Ending) (w' : World) : Prop :=
  ∃ A c, e = .returned (.slice A L.length c) ∧ Ints w' A L.length L ∧ (A = none → c = 0) ∧ Below w.heap.size w w'
theorem OwnI.told {E : TypeId} {w wr : World} {v : Value} {xs : List Int} (h : OwnI E w.heap.size w wr v xs) : IVP w xs (.returned v) wr := by
  have hb := h.below
  rcases h.1.2 with ⟨rfl, hn⟩ | ⟨g, cap, cur, rfl, _, hh, _, _, _, _⟩
  · exact ⟨none, 0, by rw [hn], ⟨rfl, fun h => by omega⟩, fun _ => rfl, hb⟩
  · refine ⟨_, _, rfl, ⟨rfl, fun _ => ⟨g, 0, rfl, fun j x hx => ?_⟩⟩, (fun h => by cases h), hb⟩
    have := h.1.cells (g := g) rfl j (.int .i64 x) (by simp [hx])
    have hadd : (⟨g, 0, none⟩ : Addr).add j = ⟨g, 0 + j, none⟩ := by unfold Addr.add; split <;> simp_all
    rw [hadd] at this
    exact this
theorem workers_eq (n : Nat) (w : World) (hn : n ≤ 64) :
    Calls Tryd.prog 35 #[.int .i64 (n : Int)] w fun e w' => IVP w (upI n) e w' := by
  go_enter Tryd.func35, Tryd.ntmps35
  go_wp2_with (at_make; refine wpList_imake (w0 := w) (B := w.heap.size) rfl _ _ 32 rfl Tryd.underlying32 infoI _ n rfl rfl rfl (by omega) (Below.refl _ _) (Nat.le_refl _) ?_)
  intro v1 w1 hb1
  go_wp2_with fail
  go_loopw [3, 4, 8] (fun v _ i wr => ∃ k : Nat, k ≤ n ∧ i = .int .i64 k ∧ OwnI 3 w.heap.size w wr v (upI k)) (fun _ _ i _ => n - (intOf i).toNat)
  case atStart => exact ⟨0, by omega, rfl, hb1⟩
  case round =>
    obtain ⟨k, hk, rfl, hown⟩ := hrel
    by_cases hlt : k < n
    · have HL : Hid (upI (k + 1) = upI k ++ [(k : Int)]) := upI_snoc k
      have hul := upI_len k
      obtain ⟨L0, hL0⟩ : ∃ L0, L0 = upI k := ⟨_, rfl⟩
      rw [← hL0] at hown hul HL
      clear hL0
      go_wp2_with (at_builtin; refine wpList_iapp rfl _ _ 32 rfl Tryd.underlying32 infoI rfl (hown.alloc _) _ 1 1 [(k : Int)] rfl (ints_new1 _ _ _) (fun h => by cases h) (by omega) ?_)
      intro v2 w2 hown2
      rw [← HL.out] at hown2
      go_wp2_with fail
      go_roundw
      case rel => exact ⟨k + 1, by omega, by go_num, hown2⟩
      case measure => simp [intOf]; omega
    · have hkn : k = n := by omega
      have hT := OwnI.told hown
      rw [hkn] at hT
      clear hown hkn
      go_wp2_with fail
      go_ret
      exact hT
theorem IVP.more {w w1 w2 : World} {L : List Int} {e : Ending} (hb : Below w.heap.size w w1) (h : IVP w1 L e w2) : IVP w L e w2 := by
  obtain ⟨A, c, he, hs, hc, hb2⟩ := h
  exact ⟨A, c, he, hs, hc, below_more hb hb2⟩
theorem IVP.none_ {w w1 : World} (hb : Below w.heap.size w w1) : IVP w [] (.returned (.slice none 0 0)) w1 := ⟨none, 0, rfl, Ints.nil _, fun _ => rfl, hb⟩
theorem hubs_eq (l : List UInt8) (n : Int) (L : List Int) (w : World) (hG : Glo w) (hl : l.length ≤ 1000000) (h : hubsI l n = L) :
    Calls Tryd.prog 21 #[.string ⟨l.toArray⟩, .int .i64 n] w fun e w' => IVP w L e w' := by
  have hb : Below w.heap.size w w := Below.refl _ _
  have HG := Lib.hid hG
  clear hG
  cases hm : manyB n with
  | false =>
    have H : [] = L := by rw [← h, hubsI, hm]; rfl
    subst H
    have HM := Lib.hid hm
    clear h hm
    go_enter Tryd.func21, Tryd.ntmps21
    go_wp2_with fail
    refine (isMany_eq n false _ HM.out).mono ?_
    rintro e w1 ⟨rfl, rfl⟩
    go_wp2_with fail
    go_ret
    exact IVP.none_ hb
  | true =>
    have hn := many_yes hm
    have HM := Lib.hid hm
    cases hf : filB l with
    | false =>
      have H : [] = L := by rw [← h, hubsI, hm, hf]; rfl
      subst H
      have HF := Lib.hid hf
      clear h hm hf
      go_enter Tryd.func21, Tryd.ntmps21
      go_wp2_with fail
      refine (isMany_eq n true _ HM.out).mono ?_
      rintro e w1 ⟨rfl, rfl⟩
      go_wp2_with fail
      refine (tpFilter_eq l false _ HG.out (by omega) HF.out).mono ?_
      rintro e w1 ⟨rfl, hb1⟩
      replace hb := below_more hb hb1
      clear hb1
      go_wp2_with fail
      go_ret
      exact IVP.none_ hb
    | true =>
      have HF := Lib.hid hf
      cases hw : wilB l with
      | true =>
        obtain ⟨m, rfl⟩ : ∃ m : Nat, n = (m : Int) := ⟨n.toNat, by omega⟩
        have H : Hid (upI m = L) := by show _ = _; rw [← h, hubsI, hm, hf, hw]; simp
        have HR := Lib.hid (firL_no l hw)
        clear h hm hf hw
        go_enter Tryd.func21, Tryd.ntmps21
        go_wp2_with fail
        refine (isMany_eq _ true _ HM.out).mono ?_
        rintro e w1 ⟨rfl, rfl⟩
        go_wp2_with fail
        refine (tpFilter_eq l true _ HG.out (by omega) HF.out).mono ?_
        rintro e w1 ⟨rfl, hb1⟩
        replace hb := below_more hb hb1
        clear hb1
        go_wp2_with fail
        refine (tpFirst_eq l [] false _ (HG.out.below hb) (by omega) HR.out).mono ?_
        rintro e w1 ⟨rfl, hb1⟩
        replace hb := below_more hb hb1
        clear hb1
        go_wp2_with fail
        refine (workers_eq m _ (by omega)).mono ?_
        rintro e w4 hI
        rw [H.out] at hI
        obtain ⟨A, c, rfl, hs, hc, hb2⟩ := hI
        replace hb := below_more hb hb2
        clear hb2
        go_wp2_with fail
        go_ret
        exact ⟨A, c, rfl, hs, hc, hb⟩
      | false =>
        have HR := Lib.hid (firL_yes l hf hw)
        obtain ⟨v, hv⟩ : ∃ v, pickI (headL l) n = v := ⟨_, rfl⟩
        have H : L = [v] := by rw [← h, hubsI, hm, hf, hw, hv]; rfl
        subst H
        have HV := Lib.hid hv
        have hhl := head_len l
        clear h hm hf hw hv
        obtain ⟨x, hx⟩ : ∃ x, headL l = x := ⟨_, rfl⟩
        rw [hx] at HV HR hhl
        clear hx
        go_enter Tryd.func21, Tryd.ntmps21
        go_wp2_with fail
        refine (isMany_eq _ true _ HM.out).mono ?_
        rintro e w1 ⟨rfl, rfl⟩
        go_wp2_with fail
        refine (tpFilter_eq l true _ HG.out (by omega) HF.out).mono ?_
        rintro e w1 ⟨rfl, hb1⟩
        replace hb := below_more hb hb1
        clear hb1
        go_wp2_with fail
        refine (tpFirst_eq l x true _ (HG.out.below hb) (by omega) HR.out).mono ?_
        rintro e w1 ⟨rfl, hb1⟩
        replace hb := below_more hb hb1
        clear hb1
        go_wp2_with fail
        refine (pick_eq x n v _ (by omega) (by omega) (by omega) HV.out).mono ?_
        rintro e w4 ⟨rfl, hb2⟩
        replace hb := below_more hb hb2
        clear hb2
        go_wp2_with fail
        go_ret
        exact ⟨_, 1, rfl, ints_new1 _ _ _, (fun h => by cases h), below_alloc hb _⟩
end Go.Proofs.YtiiojdlmbfkkhaaDoor
