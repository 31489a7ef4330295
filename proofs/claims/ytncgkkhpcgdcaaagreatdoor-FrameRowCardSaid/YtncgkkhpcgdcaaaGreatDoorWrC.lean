/-
  write: a Builder that is grown.
-/
import Derived.Test.YtncgkkhpcgdcaaaGreatDoorWrKit
set_option linter.unusedSimpArgs false
set_option linter.unusedVariables false
namespace Go.Proofs.YtncgkkhpcgdcaaaGreatDoor
open Go.RowKit
set_option maxRecDepth 100000
theorem u8_size : (Tryz.prog.info? 5).map (·.size) = some 1 := by kernel_rfl
section
variable {w0 : World} {b : Nat} {l : List UInt8} {L : List (Nat × Array Value × TypeId)} {w : World}
/-- What a larger buffer leaves. -/
theorem grown_kb (h : Kb w0 b l L w) {v : Value} (hbk : w.heap[b]? = some (.cells #[.pointer (some ⟨b, 0, none⟩), v] 78 (0, 0))) {w1 : World} {g : Nat} {cur : List Value} (hg : w.heap.size ≤ g)
    (h1 : w1.heap[g]? = some (.cells (splice cur 0 (Lib.byteCells l)).toArray 5 (0, 0))) (hb : Below w.heap.size w w1) (hcap : l.length ≤ cur.length) (hm : cur.length ≤ maxLen) :
    Kb w0 b l L (w1.setCell ⟨b, 1, none⟩ (.slice (some ⟨g, 0, none⟩) l.length cur.length)) := by
  have hk := h.more hb
  have hbk1 := (hb.block b h.blt).trans hbk
  have hB := h.size
  have hb0 := h.base
  have hl := Lib.byteCells_length l
  have hown : w1.ownsRow w0.heap.size 5 1 (.slice (some ⟨g, 0, none⟩) l.length cur.length) (Lib.byteCells l).length (Lib.byteCells l) := by
    refine ⟨by omega, .inr ⟨g, cur.length, _, by rw [hl], by omega, h1, by omega, hm, ?_, ?_⟩⟩
    · have := length_splice cur 0 (Lib.byteCells l) (by omega)
      simpa using this
    · simp [splice, hl]
  exact hk.wrote (Lib.BuilderAt.put hb0 hbk1 hown ne_bu) ((Below.refl _ _).setCell (p := ⟨b, 1, none⟩) hb0 _) ((Lib.OthersKept.refl _ _ _).setCell ⟨b, 1, none⟩ rfl _)
set_option maxHeartbeats 2000000 in
theorem grow_any (h : Kb w0 b l L w) (A : Option Addr) (cap : Nat) (hbk : w.heap[b]? = some (.cells #[.pointer (some ⟨b, 0, none⟩), .slice A l.length cap] 78 (0, 0)))
    (hA : 0 < l.length → ∃ ad, A = some ad ∧ ∀ j v, (Lib.byteCells l)[j]? = some v → w.cell? (ad.add j) = some v) (N : Int) (n0 : 0 ≤ N) (n1 : N ≤ 1099511627776) (hc : cap ≤ 4398046511104) (hcl : l.length ≤ cap) :
    Calls Tryz.prog 64 #[.pointer (some ⟨b, 0, none⟩), .int .i64 N] w fun e w' => e = .returned (.tuple #[]) ∧ Kb w0 b l L w' := by
  obtain ⟨M, hM⟩ : ∃ M : Nat, (M : Int) = 2 * cap + N := ⟨(2 * cap + N).toNat, by omega⟩
  obtain ⟨cs, hrun, hle, hmax⟩ := Lib.run_makeNoZero (P := Tryz.prog) w.drew #[3] 23 5 Tryz.underlying23 M (by omega)
  have hcall : (callFunc 94 #[.int .i64 (2 * cap + N)]).run Tryz.prog w.drew = .ok (.value (.slice (some ⟨w.drew.heap.size, 0, none⟩) M cs.size)) (w.drew.drew.drew.alloc (.cells cs 5)) := by
    rw [← hM, run_callFunc_extern Tryz.func94 (by kernel_rfl) (by kernel_rfl) (by kernel_rfl) (e := Extern.BytealgMakeNoZero.makeNoZero #[3] #[23]) (by kernel_rfl), hrun]
    rfl
  have hcs := hmax (by unfold maxLen; omega)
  have hblt := h.blt
  have hw1 : IntKind.i64.wrap (2 * (cap : Int)) = 2 * cap := IntWalk.i64_in _ (by omega)
  have hw2 : IntKind.i64.wrap (2 * (cap : Int) + N) = 2 * cap + N := IntWalk.i64_in _ (by omega)
  have c1 : w.drew.cell? ⟨b, 1, none⟩ = some (.slice A l.length cap) := by
    have : w.drew.heap[b]? = _ := hbk
    rw [Lib.cell_of_heap this]; rfl
  have hb2 : (w.alloc (.cells cs 5)).heap[b]? = some (.cells #[.pointer (some ⟨b, 0, none⟩), .slice A l.length cap] 78 (0, 0)) := (Lib.alloc_old w _ b hblt).trans hbk
  have c2 : (w.alloc (.cells cs 5)).cell? ⟨b, 1, none⟩ = some (.slice A l.length cap) := by rw [Lib.cell_of_heap hb2]; rfl
  have HC := Lib.hid hcall
  clear hrun hmax hcall
  go_enter Tryz.func64, Tryz.ntmps64
  go_wp2
  have hcall := HC.out
  go_region
  clear hcall HC c1 c2
  have hbw : Below w.heap.size w (w.alloc (.cells cs 5)).drew.drew.drew := ((((Below.refl _ _).alloc (Nat.le_refl _) _).drew).drew).drew
  have hgw : (w.alloc (.cells cs 5)).drew.drew.drew.heap[w.heap.size]? = some (.cells cs.toList.toArray 5 (0, 0)) := by
    rw [Array.toArray_toList]
    exact heap_alloc_new w _
  have hbk3 : (w.alloc (.cells cs 5)).drew.drew.drew.heap[b]? = some (.cells #[.pointer (some ⟨b, 0, none⟩), .slice A l.length cap] 78 (0, 0)) := hb2
  have c3 : (w.alloc (.cells cs 5)).drew.drew.drew.cell? ⟨b, 1, none⟩ = some (.slice A l.length cap) := by rw [Lib.cell_of_heap hbk3]; rfl
  obtain ⟨wx, hwx⟩ : ∃ wx : World, wx = (w.alloc (.cells cs 5)).drew.drew.drew := ⟨_, rfl⟩
  rw [← hwx] at hbw hgw hbk3 c3 ⊢
  clear hwx
  have hlm : l.length ≤ cs.toList.length := by simp; omega
  have hbl := Lib.byteCells_length l
  go_wp2_with (refine wpList_copy_splice rfl _ _ _ _ rfl 5 Tryz.underlying23 u8_size _ _ _ _ _ _ rfl rfl w.heap.size 0 cs.toList 5 hgw (Lib.byteCells l) (by rw [hbl]; exact (Nat.min_self _).symm) ?hpos (by omega) ?h1 w.heap.size w hbw (Nat.le_refl _) ?_)
  case hpos =>
    intro hp
    obtain ⟨ad, rfl, hj⟩ := hA (by omega)
    have hh : ∀ j v, (Lib.byteCells l)[j]? = some v → wx.cell? (ad.add j) = some v := fun j v hv => (hbw.cell (World.block_lt_of_cell? _ _ (hj j v hv))).trans (hj j v hv)
    first
    | exact ⟨rfl, ad, rfl, hh⟩
    | exact ⟨ad, rfl, hh⟩
    | exact ⟨ad, by simp, hh⟩
    | exact hh
  case h1 =>
    intro v hv
    simp only [Lib.byteCells, List.mem_map] at hv
    obtain ⟨x, _, rfl⟩ := hv
    rfl
  intro w2 hg2 hb2'
  have hbk4 := (hb2'.block b hblt).trans hbk
  have d1 : w2.cell? ⟨b, 1, none⟩ = some (.slice A l.length cap) := by rw [Lib.cell_of_heap hbk4]; rfl
  have d2 := Lib.frozen_of_heap hbk4 1
  have hfin := grown_kb h hbk (Nat.le_refl _) hg2.out hb2' hlm (by simpa using hcs)
  rw [Array.length_toList] at hfin
  clear hbw hgw hbk3 c3 hg2 hb2' hbk4
  go_wp2_with fail
  go_end0
  exact ⟨rfl, by rw [← setCell_row]; exact hfin⟩
set_option maxHeartbeats 2000000 in
/-- (*strings.Builder).Grow: as many bytes as before; nothing else turns. -/
theorem wGrow (h : Kb w0 b l L w) (N : Int) (n0 : 0 ≤ N) (n1 : N ≤ 1099511627776) (hl : l.length ≤ 1099511627776) :
    Calls Tryz.prog 37 #[.pointer (some ⟨b, 0, none⟩), .int .i64 N] w fun e w' => e = .returned (.tuple #[]) ∧ Kb w0 b l L w' := by
  have hN : ¬ N < 0 := by omega
  go_enter Tryz.func37, Tryz.ntmps37
  go_wp2_with fail
  refine (copyCheck_any h).mono ?_
  rintro e w1 ⟨rfl, hK, hat⟩
  clear h
  obtain ⟨v, c1, hown, f1, c0⟩ := bat_cell hat
  obtain ⟨A0, cp0, rfl⟩ := own_slice hown
  have hcap : l.length ≤ cp0 ∧ cp0 ≤ 9223372036854775807 := by
    rcases hown.2 with ⟨hv, h0⟩ | ⟨g, cap, cur, hv, _, _, h1, h2, _⟩
    · injection hv with _ e1 e2
      omega
    · injection hv with _ _ e2
      subst e2
      exact ⟨h1, h2⟩
  have hw : IntKind.i64.wrap ((cp0 : Int) - l.length) = cp0 - l.length := IntWalk.i64_in _ (by omega)
  have hw' : wrap64 ((cp0 : Int) - l.length) = cp0 - l.length := IntWalk.wrap64_in _ (by omega)
  by_cases hlt : (cp0 : Int) - l.length < N
  · have hd : decide ((cp0 : Int) - l.length < N) = true := by simpa using hlt
    go_wp2_with fail
    go_quiet (fail)
    go_wp2_with fail
    have hKd := hK.more (below_drewN (Below.refl _ _) nq)
    have hatd := bat_more hat (below_drewN (Below.refl _ _) nq)
    obtain ⟨wd, hwd⟩ : ∃ wd : World, wd = w1.drewN nq := ⟨_, rfl⟩
    rw [← hwd] at hKd hatd ⊢
    have hbk : wd.heap[b]? = some (.cells #[.pointer (some ⟨b, 0, none⟩), .slice A0 l.length cp0] 78 (0, 0)) := by
      obtain ⟨_, v2, hh, _, _⟩ := hatd
      have hc : wd.cell? ⟨b, 1, none⟩ = some (.slice A0 l.length cp0) := by
        rw [hwd, (below_drewN (Below.refl w1.heap.size w1) nq).cell (p := ⟨b, 1, none⟩) hK.blt]
        exact c1
      rw [Lib.cell_of_heap hh] at hc
      obtain rfl : v2 = _ := by simpa using hc
      exact hh
    have hown2 : wd.ownsRow w0.heap.size 5 1 (.slice A0 l.length cp0) l.length (bcells l) := by rw [hwd]; exact own_below hown (below_drewN (Below.refl _ _) nq)
    refine (grow_any hKd A0 cp0 hbk ?_ N n0 n1 (by omega) hcap.1).mono ?_
    · intro hp
      rcases hown2.2 with ⟨hv, h0⟩ | ⟨g, cap, cur, hv, _⟩
      · omega
      · injection hv with e1 e2 e3
        subst e1
        exact ⟨_, rfl, fun j v hv => hown2.cells (g := g) rfl j v hv⟩
    rintro e w2 ⟨rfl, hK2⟩
    go_wp2_with fail
    go_end0
    exact ⟨rfl, hK2⟩
  · have hd : decide ((cp0 : Int) - l.length < N) = false := by simpa using hlt
    go_wp2_with fail
    go_quiet (fail)
    go_wp2_with fail
    go_end0
    exact ⟨rfl, hK.more (below_drewN (Below.refl _ _) nq)⟩
end
end Go.Proofs.YtncgkkhpcgdcaaaGreatDoor
