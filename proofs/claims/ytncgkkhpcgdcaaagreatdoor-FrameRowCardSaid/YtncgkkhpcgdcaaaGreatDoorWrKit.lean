/-
  A strings.Builder that a call has made, and the blocks of its own beside it: the words of write's walks, and what the Builder's methods do.
-/
import Derived.Test.YtncgkkhpcgdcaaaGreatDoorPkKit
import Derived.Test.YtncgkkhpcgdcaaaGreatDoorTextWalks
import Derived.Test.YtncgkkhpcgdcaaaGreatDoorWrMath
import Derived.Lib.Builder
import Derived.Lib.OthersKept
import Derived.Lib.MakeNoZero
import Derived.Laws.CopyOwn
import Derived.Laws.Externs
import Derived.BigQuiet
import Derived.BigRegion
import Derived.Deep.QuietTactic
set_option linter.unusedSimpArgs false
set_option linter.unusedVariables false
namespace Go.Proofs.YtncgkkhpcgdcaaaGreatDoor
open Go.RowKit
set_option maxRecDepth 100000
theorem ne_bu : (78 : TypeId) ≠ 5 := by decide
/-- w0: the world in which the call began that made the builder b; its bytes are l; the blocks L are known whole. -/
structure Kb (w0 : World) (b : Nat) (l : List UInt8) (L : List (Nat × Array Value × TypeId)) (w : World) : Prop where
  rows : ∀ x ∈ L, x.1 ≠ b ∧ x.2.2 ≠ 5 ∧ w.heap[x.1]? = some (.cells x.2.1 x.2.2 (0, 0))
  bld : Lib.IsBuilder 78 5 w0.heap.size b (Lib.byteCells l) w
  below : Below w0.heap.size w0 w
section
variable {w0 w w' : World} {b g : Nat} {l l' : List UInt8} {L : List (Nat × Array Value × TypeId)} {cs : Array Value} {t : TypeId} {B : Nat} {T e : TypeId} {p v v' : Value} {bs : List Value}
theorem bat_more (h : Lib.BuilderAt T e B b p bs w) (hb : Below w.heap.size w w') : Lib.BuilderAt T e B b p bs w' := by
  have hlt := h.lt
  obtain ⟨hB, v, hbk, hown, hne⟩ := h
  exact ⟨hB, v, (hb.block b hlt).trans hbk, own_below hown hb, hne⟩
theorem isb_more (h : Lib.IsBuilder T e B b bs w) (hb : Below w.heap.size w w') : Lib.IsBuilder T e B b bs w' :=
  h.elim (fun x => .inl (bat_more x hb)) (fun x => .inr (bat_more x hb))
theorem isb_lt (h : Lib.IsBuilder T e B b bs w) : b < w.heap.size := h.elim (fun x => x.lt) (fun x => x.lt)
theorem isb_base (h : Lib.IsBuilder T e B b bs w) : B ≤ b := h.elim (fun x => x.1) (fun x => x.1)
theorem Kb.size (h : Kb w0 b l L w) : w0.heap.size ≤ w.heap.size := h.below.size
theorem Kb.blt (h : Kb w0 b l L w) : b < w.heap.size := isb_lt h.bld
theorem Kb.base (h : Kb w0 b l L w) : w0.heap.size ≤ b := isb_base h.bld
theorem Kb.more (h : Kb w0 b l L w) (hb : Below w.heap.size w w') : Kb w0 b l L w' :=
  ⟨fun x hx => by
    obtain ⟨h1, h2, h3⟩ := h.rows x hx
    exact ⟨h1, h2, (hb.block _ (Array.getElem?_eq_some_iff.1 h3).1).trans h3⟩, isb_more h.bld hb, h.below.trans (hb.mono h.size)⟩
theorem Kb.drew (h : Kb w0 b l L w) : Kb w0 b l L w.drew := h.more (Below.refl _ _).drew
theorem Kb.new (h : Kb w0 b l L w) (cs : Array Value) (t : TypeId) (ht : t ≠ 5) : Kb w0 b l ((w.heap.size, cs, t) :: L) (w.alloc (.cells cs t)) := by
  have hm := h.more ((Below.refl _ _).alloc (Nat.le_refl _) (.cells cs t))
  refine ⟨fun x hx => ?_, hm.bld, hm.below⟩
  rcases List.mem_cons.1 hx with rfl | hx
  · exact ⟨(Nat.ne_of_lt h.blt).symm, ht, heap_alloc_new w _⟩
  · exact hm.rows x hx
theorem Kb.tail {x : Nat × Array Value × TypeId} (h : Kb w0 b l (x :: L) w) : Kb w0 b l L w := ⟨fun y hy => h.rows y (by simp [hy]), h.bld, h.below⟩
theorem Kb.row (h : Kb w0 b l ((g, cs, t) :: L) w) : rowAt w g = cs := rowAt_blk (h.rows (g, cs, t) (by simp)).2.2
theorem Kb.free (h : Kb w0 b l ((g, cs, t) :: L) w) : freeB w g = true := by
  unfold freeB
  rw [(h.rows (g, cs, t) (by simp)).2.2]
  rfl
theorem Kb.cell (h : Kb w0 b l ((g, cs, t) :: L) w) : ∀ i, w.cell? ⟨g, i, none⟩ = cs[i]? := fun i => cell_of_row w g i cs t (0, 0) (h.rows (g, cs, t) (by simp)).2.2
theorem Kb.froz (h : Kb w0 b l ((g, cs, t) :: L) w) : ∀ i, w.frozen? ⟨g, i, none⟩ = false := fun i => by
  have := (h.rows (g, cs, t) (by simp)).2.2
  simp at this
  simp [World.frozen?, this]
theorem Kb.lt (h : Kb w0 b l ((g, cs, t) :: L) w) : g < w.heap.size := (Array.getElem?_eq_some_iff.1 (h.rows (g, cs, t) (by simp)).2.2).1
/-- What a method leaves that writes the builder's own block or its row. -/
theorem Kb.wrote (h : Kb w0 b l L w) (h1 : Lib.BuilderAt 78 5 w0.heap.size b (.pointer (some ⟨b, 0, none⟩)) (Lib.byteCells l') w') (h2 : Below w0.heap.size w w') (h3 : Lib.OthersKept 5 (some b) w w') : Kb w0 b l' L w' :=
  ⟨fun x hx => by
    obtain ⟨k1, k2, k3⟩ := h.rows x hx
    exact ⟨k1, k2, h3 x.1 _ k3 (fun e => k1 (Option.some.inj e)) (fun c fz e => k2 (by injection e))⟩, .inr h1, h.below.trans h2⟩
/-- An append onto the builder's row, and its store into the builder. -/
theorem Kb.appended (h : Kb w0 b l L w) (hat : Lib.BuilderAt 78 5 w0.heap.size b (.pointer (some ⟨b, 0, none⟩)) (Lib.byteCells l) w) (hv : w.cell? ⟨b, 1, none⟩ = some v) (hgr : w.grownBy w' v.ownBlock)
    (hown' : w'.ownsRow w0.heap.size 5 1 v' (Lib.byteCells l').length (Lib.byteCells l')) : Kb w0 b l' L (w'.setCell ⟨b, 1, none⟩ v') := by
  have hblt := hat.lt
  obtain ⟨hB, v2, hbk, hown, hne⟩ := hat
  rw [Lib.cell_of_heap hbk] at hv
  obtain rfl : v2 = v := by simpa using hv
  have hb2 : w'.heap[b]? = some (.cells #[.pointer (some ⟨b, 0, none⟩), v2] 78 (0, 0)) := (hgr.block b hblt (fun e => hne e.symm)).trans hbk
  refine h.wrote (Lib.BuilderAt.put hB hb2 hown' ne_bu) (((Below.refl _ _).grown hgr h.size (fun k hk => (hown.lt k hk).1)).setCell (p := ⟨b, 1, none⟩) hB _) (((Lib.OthersKept.refl _ _ _).grown hgr (fun g hg => ?_)).setCell ⟨b, 1, none⟩ rfl _)
  rcases hown.2 with ⟨rfl, _⟩ | ⟨g', cap, cur, rfl, _, hh, _⟩
  · simp [Value.ownBlock] at hg
  · simp only [Value.ownBlock, Option.some.injEq] at hg
    subst hg
    exact ⟨_, _, hh⟩
end
theorem bytes_app (l s : List UInt8) : Lib.byteCells l ++ Lib.strCells ⟨s.toArray⟩ = Lib.byteCells (l ++ s) := by
  simp [Lib.byteCells, Lib.strCells]
theorem bytes_one (l : List UInt8) (c : Int) (h0 : 0 ≤ c) (h1 : c < 256) : Lib.byteCells l ++ [.int .u8 c] = Lib.byteCells (l ++ [toB c]) := by
  simp only [Lib.byteCells, List.map_append, List.map_cons, List.map_nil, toB_toNat c h0 h1]
theorem bu_info : ∃ j, Tryz.prog.info? 78 = some j ∧ j.size = 2 := by
  have h : (Tryz.prog.info? 78).map (·.size) = some 2 := by kernel_rfl
  obtain ⟨j, h1, h2⟩ := Option.map_eq_some_iff.1 h
  exact ⟨j, h1, h2⟩
theorem copyCheck_new (b : Nat) (v : Value) (w : World) (h : w.heap[b]? = some (.cells #[.pointer none, v] 78 (0, 0))) :
    Calls Tryz.prog 63 #[.pointer (some ⟨b, 0, none⟩)] w fun e w' => e = .returned (.tuple #[]) ∧ w' = w.setCell ⟨b, 0, none⟩ (.pointer (some ⟨b, 0, none⟩)) := by
  obtain ⟨j, hj, hjs⟩ := bu_info
  have hc0 : w.cell? ⟨b, 0, none⟩ = some (.pointer none) := by rw [Lib.cell_of_heap h]; rfl
  have hsh : w.shape? b = some (78, 2) := by simp [World.shape?, h]
  have hz := Lib.frozen_of_heap h 0
  have s1 := Lib.run_to_unsafe (P := Tryz.prog) (src := 76) (dst := 130) w ⟨b, 0, none⟩ Tryz.underlying76 Tryz.underlying130 hj (by omega) hsh (by show 0 < 2; omega)
  have s2 : (callFunc 93 #[.pointer (some ⟨b, 0, none⟩)]).run Tryz.prog w = .ok (.value (.pointer (some ⟨b, 0, none⟩))) w := by
    rw [run_callFunc_extern Tryz.func93 (by kernel_rfl) (by kernel_rfl) (by kernel_rfl) (e := Extern.AbiNoEscape.same) (by kernel_rfl), Lib.run_noEscape]
    rfl
  have s3 := Lib.run_from_unsafe (P := Tryz.prog) (src := 130) (dst := 76) w ⟨b, 0, none⟩ Tryz.underlying130 Tryz.underlying76 hj hsh (by kernel_rfl)
  clear h hj hjs
  go_enter Tryz.func63, Tryz.ntmps63
  go_wp2
  go_end0
  exact ⟨rfl, (setCell_row _ _ _).symm⟩
theorem copyCheck_old (b : Nat) (w : World) (hc0 : w.cell? ⟨b, 0, none⟩ = some (.pointer (some ⟨b, 0, none⟩))) :
    Calls Tryz.prog 63 #[.pointer (some ⟨b, 0, none⟩)] w fun e w' => e = .returned (.tuple #[]) ∧ w' = w := by
  obtain ⟨j, hj, hjs⟩ := bu_info
  have s1 := Lib.run_neq_ptr_same (P := Tryz.prog) (tp := 76) w ⟨b, 0, none⟩ Tryz.underlying76 hj
  clear hj hjs
  go_enter Tryz.func63, Tryz.ntmps63
  go_wp2
  go_end0
  exact ⟨rfl, rfl⟩
section
variable {w0 : World} {b : Nat} {l : List UInt8} {L : List (Nat × Array Value × TypeId)} {w : World}
theorem copyCheck_any (h : Kb w0 b l L w) :
    Calls Tryz.prog 63 #[.pointer (some ⟨b, 0, none⟩)] w fun e w' => e = .returned (.tuple #[]) ∧ Kb w0 b l L w' ∧ Lib.BuilderAt 78 5 w0.heap.size b (.pointer (some ⟨b, 0, none⟩)) (Lib.byteCells l) w' := by
  rcases h.bld with hh | hh
  · have hu := hh.used (.pointer (some ⟨b, 0, none⟩))
    have hh2 := hh
    obtain ⟨hB, v, hbk, _, _⟩ := hh2
    refine (copyCheck_new b v w hbk).mono ?_
    rintro e w' ⟨rfl, rfl⟩
    exact ⟨rfl, h.wrote hu ((Below.refl _ _).setCell (p := ⟨b, 0, none⟩) hB _) ((Lib.OthersKept.refl _ _ _).setCell ⟨b, 0, none⟩ rfl _), hu⟩
  · refine (copyCheck_old b w hh.cell0).mono ?_
    rintro e w' ⟨rfl, rfl⟩
    exact ⟨rfl, h, hh⟩
theorem bat_cell (h : Lib.BuilderAt 78 5 w0.heap.size b (.pointer (some ⟨b, 0, none⟩)) (Lib.byteCells l) w) : ∃ v, w.cell? ⟨b, 1, none⟩ = some v ∧ w.ownsRow w0.heap.size 5 1 v l.length (bcells l) ∧ w.frozen? ⟨b, 1, none⟩ = false ∧ w.cell? ⟨b, 0, none⟩ = some (.pointer (some ⟨b, 0, none⟩)) := by
  obtain ⟨_, v, hbk, hown, _⟩ := h
  refine ⟨v, by rw [Lib.cell_of_heap hbk]; rfl, ?_, Lib.frozen_of_heap hbk 1, by rw [Lib.cell_of_heap hbk]; rfl⟩
  rw [Lib.byteCells_length] at hown
  exact hown
theorem own_slice {w : World} {B : Nat} {e : TypeId} {v : Value} {n : Nat} {xs : List Value} (h : w.ownsRow B e 1 v n xs) : ∃ A c, v = .slice A n c := by
  rcases h.2 with ⟨rfl, rfl⟩ | ⟨g, cap, cur, rfl, _⟩
  · exact ⟨_, _, rfl⟩
  · exact ⟨_, _, rfl⟩
set_option maxHeartbeats 1000000 in
theorem wByte (h : Kb w0 b l L w) (c : Int) (h0 : 0 ≤ c) (h1 : c < 256) (hl : l.length ≤ 70368744177664) :
    Calls Tryz.prog 67 #[.pointer (some ⟨b, 0, none⟩), .int .u8 c] w fun e w' => e = .returned .nilIface ∧ Kb w0 b (l ++ [toB c]) L w' := by
  obtain ⟨i, hi, hz0, hz1, hz2⟩ := info_parts info8
  go_enter Tryz.func67, Tryz.ntmps67
  go_wp2_with fail
  refine (copyCheck_any h).mono ?_
  rintro e w1 ⟨rfl, hK, hat⟩
  obtain ⟨v, c1, hown, f1, c0⟩ := bat_cell hat
  clear h
  have hKa := hK.more ((Below.refl _ _).alloc (Nat.le_refl _) (.cells #[.int .u8 c] 5))
  have hata := bat_more hat ((Below.refl _ _).alloc (Nat.le_refl _) (.cells #[.int .u8 c] 5))
  have hsz := hKa.size
  obtain ⟨A0, cp0, rfl⟩ := own_slice hown
  go_wp2_with (at_builtin; refine wpList_append_own _ rfl _ _ 23 rfl w0.heap.size 5 i (.int .u8 0) 1 1 Tryz.underlying23 hi hz0 hz1 hz2 rfl (by decide) _ l.length (bcells l) rfl (hown.alloc _) ⟨w1.heap.size, 0, none⟩ 1 1 [.int .u8 c] rfl rfl ?hc1 (by intro u hu; simp at hu; subst hu; rfl) (by unfold maxLen; omega) (by omega) hsz ?_)
  case hc1 =>
    intro j u hj
    match j, hj with
    | 0, hj => simp at hj; subst hj; simp [Addr.add]
  intro v' w2 hown' hgr _
  have hb2 := hata
  obtain ⟨_, v3, hbk, _, hne⟩ := hb2
  have hv3 : v3 = .slice A0 l.length cp0 := by
    have hh : (w1.alloc (.cells #[.int .u8 c] 5)).cell? ⟨b, 1, none⟩ = some (.slice A0 l.length cp0) := (((Below.refl _ _).alloc (Nat.le_refl _) _).cell (p := ⟨b, 1, none⟩) hK.blt).trans c1
    rw [Lib.cell_of_heap hbk] at hh
    simpa using hh
  subst hv3
  have hbk2 := (hgr.block b hata.lt (fun e => hne e.symm)).trans hbk
  have d0 : w2.cell? ⟨b, 0, none⟩ = some (.pointer (some ⟨b, 0, none⟩)) := by rw [Lib.cell_of_heap hbk2]; rfl
  have d1 : w2.cell? ⟨b, 1, none⟩ = some (.slice A0 l.length cp0) := by rw [Lib.cell_of_heap hbk2]; rfl
  have d2 := Lib.frozen_of_heap hbk2 1
  have hfin : Kb w0 b (l ++ [toB c]) L (w2.setCell ⟨b, 1, none⟩ v') := hKa.appended hata (by rw [Lib.cell_of_heap hbk]; rfl) hgr (by rw [Lib.byteCells_length, ← bytes_one l c h0 h1]; simpa [bcells, Lib.byteCells] using hown')
  obtain ⟨A1, cp1, rfl⟩ := own_slice hown'
  clear c1 hown f1 c0 hK hat hKa hata hgr hown' hbk hbk2 hne
  go_wp2_with fail
  go_ret
  exact ⟨rfl, by rw [← setCell_row]; exact hfin⟩
set_option maxHeartbeats 1000000 in
theorem wStr (h : Kb w0 b l L w) (s : List UInt8) (hs : s.length ≤ 70368744177664) (hl : l.length ≤ 70368744177664) :
    Calls Tryz.prog 69 #[.pointer (some ⟨b, 0, none⟩), .string ⟨s.toArray⟩] w fun e w' => e = .returned (.tuple #[.int .i64 s.length, .nilIface]) ∧ Kb w0 b (l ++ s) L w' := by
  have hsz2 : (ByteArray.mk s.toArray).size = s.length := by show s.toArray.size = _; simp
  obtain ⟨i, hi, hz0, hz1, hz2⟩ := info_parts info8
  go_enter Tryz.func69, Tryz.ntmps69
  go_wp2_with fail
  refine (copyCheck_any h).mono ?_
  rintro e w1 ⟨rfl, hK, hat⟩
  obtain ⟨v, c1, hown, f1, c0⟩ := bat_cell hat
  clear h
  have hsz := hK.size
  obtain ⟨A0, cp0, rfl⟩ := own_slice hown
  go_wp2_with (at_builtin; refine Lib.wpList_append_own_string _ rfl _ _ 23 9 rfl w0.heap.size 5 i Tryz.underlying23 Tryz.underlying9 hi hz0 hz1 hz2 _ l.length (bcells l) rfl hown ⟨s.toArray⟩ rfl (by rw [hsz2]; unfold maxLen; omega) (by rw [hsz2]; omega) hsz ?_)
  intro v' w2 hown' hgr _
  have hb2 := hat
  obtain ⟨_, v3, hbk, _, hne⟩ := hb2
  have hv3 : v3 = .slice A0 l.length cp0 := by
    rw [Lib.cell_of_heap hbk] at c1
    simpa using c1
  subst hv3
  have hbk2 := (hgr.block b hat.lt (fun e => hne e.symm)).trans hbk
  have d0 : w2.cell? ⟨b, 0, none⟩ = some (.pointer (some ⟨b, 0, none⟩)) := by rw [Lib.cell_of_heap hbk2]; rfl
  have d1 : w2.cell? ⟨b, 1, none⟩ = some (.slice A0 l.length cp0) := by rw [Lib.cell_of_heap hbk2]; rfl
  have d2 := Lib.frozen_of_heap hbk2 1
  have hfin : Kb w0 b (l ++ s) L (w2.setCell ⟨b, 1, none⟩ v') := hK.appended hat c1 hgr (by rw [Lib.byteCells_length, ← bytes_app l s, List.length_append, ← hsz2]; exact hown')
  obtain ⟨A1, cp1, rfl⟩ := own_slice hown'
  clear c1 hown f1 c0 hK hat hgr hown' hbk hbk2 hne
  go_wp2_with fail
  go_ret2
  exact ⟨rfl, by rw [← setCell_row]; exact hfin⟩
theorem wString (h : Kb w0 b l L w) :
    Calls Tryz.prog 41 #[.pointer (some ⟨b, 0, none⟩)] w fun e w' => e = .returned (.string ⟨l.toArray⟩) ∧ Below w0.heap.size w0 w' := by
  refine (Tryz.Builder_String_any w0.heap.size b l w h.bld h.size).mono ?_
  rintro e w' ⟨rfl, k2⟩
  first
  | exact ⟨rfl, h.below.trans k2⟩
  | exact ⟨rfl, h.below.trans k2.2⟩
  | exact ⟨rfl, h.below.trans k2.1⟩
end
end Go.Proofs.YtncgkkhpcgdcaaaGreatDoor
