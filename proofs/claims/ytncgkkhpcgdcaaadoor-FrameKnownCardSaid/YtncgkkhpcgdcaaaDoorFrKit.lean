/-
  frame: a framer in the world, and what its methods do that read no packet.
-/
import Derived.Test.YtncgkkhpcgdcaaaDoorPkKit
import Derived.Lib.OthersKept
import Derived.Lib.AppendStr
import Derived.Laws.CopyOwn
import Derived.Laws.AppendOwnNone
set_option linter.unusedSimpArgs false
set_option linter.unusedVariables false
namespace Go.Proofs.YtncgkkhpcgdcaaaDoor
open Go.RowKit
set_option maxRecDepth 100000
/-- A framer's cells. -/
def FrC (m : Int) (A : Option Addr) (n c : Nat) (k f : Int) : Array Value := #[.int .i64 m, .slice A n c, .int .i64 k, .int .i64 f]
section
variable {m k f : Int} {A : Option Addr} {n c : Nat}
@[go_sem, simp] theorem FrC_size : (FrC m A n c k f).size = 4 := rfl
@[go_sem] theorem FrC_one : ones (FrC m A n c k f) = true := by simp [ones, FrC, Value.oneCell']
@[go_sem] theorem FrC_ne : (FrC m A n c k f = #[]) = False := by simp [FrC]
@[go_sem high] theorem FrC_0 : (FrC m A n c k f)[0]? = some (.int .i64 m) := rfl
@[go_sem high] theorem FrC_1 : (FrC m A n c k f)[1]? = some (.slice A n c) := rfl
@[go_sem high] theorem FrC_2 : (FrC m A n c k f)[2]? = some (.int .i64 k) := rfl
@[go_sem high] theorem FrC_3 : (FrC m A n c k f)[3]? = some (.int .i64 f) := rfl
@[go_sem] theorem FrC_g0 (h : 0 < (FrC m A n c k f).size) : (FrC m A n c k f)[0]'h = .int .i64 m := rfl
@[go_sem] theorem FrC_g1 (h : 1 < (FrC m A n c k f).size) : (FrC m A n c k f)[1]'h = .slice A n c := rfl
@[go_sem] theorem FrC_g2 (h : 2 < (FrC m A n c k f).size) : (FrC m A n c k f)[2]'h = .int .i64 k := rfl
@[go_sem] theorem FrC_g3 (h : 3 < (FrC m A n c k f).size) : (FrC m A n c k f)[3]'h = .int .i64 f := rfl
@[go_sem] theorem FrC_s1 (B : Option Addr) (p d : Nat) : (FrC m A n c k f).setIfInBounds 1 (.slice B p d) = FrC m B p d k f := rfl
@[go_sem] theorem FrC_s2 (j : Int) : (FrC m A n c k f).setIfInBounds 2 (.int .i64 j) = FrC m A n c j f := rfl
@[go_sem] theorem FrC_s3 (e : Int) : (FrC m A n c k f).setIfInBounds 3 (.int .i64 e) = FrC m A n c k e := rfl
@[go_sem] theorem FrC_fold : (#[.int .i64 m, .slice A n c, .int .i64 k, .int .i64 f] : Array Value) = FrC m A n c k f := rfl
end
/-- What a block that is known whole tells. -/
theorem blk_row {w : World} {g : Nat} {cs : Array Value} {t : TypeId} (h : w.heap[g]? = some (.cells cs t (0, 0))) : rowAt w g = cs ∧ freeB w g = true ∧ (∀ i, w.cell? ⟨g, i, none⟩ = cs[i]?) ∧ g < w.heap.size ∧ (∀ i, w.frozen? ⟨g, i, none⟩ = false) := by
  refine ⟨rowAt_blk h, ?_, fun i => cell_of_row w g i cs t (0, 0) h, (Array.getElem?_eq_some_iff.1 h).1, fun i => ?_⟩
  · unfold freeB; rw [h]; rfl
  · simp only [World.frozen?, h]
    rfl
/-- A slice reads as bytes. -/
def Bys (w : World) (A : Option Addr) (n : Nat) (l : List UInt8) : Prop :=
  l.length = n ∧ (A = none ∨ ∃ b off, A = some ⟨b, off, none⟩ ∧ ∀ j x, l[j]? = some x → w.cell? ⟨b, off + j, none⟩ = some (.int .u8 (x.toNat : Int))) ∧ (A = none → n = 0)
theorem add_p (b off j : Nat) : (⟨b, off, none⟩ : Addr).add j = ⟨b, off + j, none⟩ := by unfold Addr.add; split <;> simp_all
section
variable {w w' : World} {A : Option Addr} {n c : Nat} {l : List UInt8}
theorem Bys.below (h : Bys w A n l) (hb : Below w.heap.size w w') : Bys w' A n l := by
  refine ⟨h.1, ?_, h.2.2⟩
  rcases h.2.1 with h1 | ⟨b, off, e, hc⟩
  · exact Or.inl h1
  · refine Or.inr ⟨b, off, e, fun j x hx => ?_⟩
    have h2 := hc j x hx
    rw [hb.cell (World.block_lt_of_cell? w _ h2)]
    exact h2
theorem Bys.conv (h : Bys w A n l) (c : Nat) : (convert 41 9 (.slice A n c)).run Tryd.prog w = .ok (.string ⟨l.toArray⟩) w := by
  obtain ⟨rfl, h2, h3⟩ := h
  rcases h2 with rfl | ⟨b, off, rfl, hc⟩
  · have h0 := h3 rfl
    have : l = [] := List.eq_nil_of_length_eq_zero h0
    subst this
    rw [run_convert_bytes_string w 41 9 5 none _ c Tryd.underlying41 Tryd.underlying5 Tryd.underlying9]
    rfl
  · exact run_convert_bytes_back w 41 9 5 ⟨b, off, none⟩ c l Tryd.underlying41 Tryd.underlying5 Tryd.underlying9 (fun j hj => by
      rw [add_p]
      exact hc j _ (List.getElem?_eq_getElem hj))
end
theorem own_bytes {w : World} {B : Nat} {A : Option Addr} {n c : Nat} {L : List UInt8} (h : w.ownsRow B 5 1 (.slice A n c) n (bcells L)) : L.length = n ∧ ((A = none ∧ n = 0 ∧ c = 0) ∨ ∃ b, A = some ⟨b, 0, none⟩ ∧ B ≤ b ∧ (∃ cur, w.heap[b]? = some (.cells cur 5 (0, 0))) ∧ n ≤ c ∧ ∀ j x, L[j]? = some x → w.cell? ⟨b, j, none⟩ = some (.int .u8 (x.toNat : Int))) := by
  have hl : L.length = n := by have := h.1; rw [bcells_len] at this; omega
  refine ⟨hl, ?_⟩
  rcases h.2 with ⟨e, hn⟩ | ⟨b, cap, cur, e, hB, hh, hc, _⟩
  · injection e with e1 e2 e3
    exact Or.inl ⟨e1, hn, e3⟩
  · injection e with e1 e2 e3
    subst e1 e3
    refine Or.inr ⟨b, rfl, hB, ⟨cur, hh⟩, hc, fun j x hx => ?_⟩
    have := h.cells (g := b) rfl j (.int .u8 (x.toNat : Int)) (by simp [bcells, hx])
    rw [add_p, Nat.zero_add] at this
    exact this
/-- A framer: its cells, and its bytes; k of them are taken. -/
structure FrS (B : Nat) (w : World) (g : Nat) (m : Int) (A : Option Addr) (n c k : Nat) (L : List UInt8) (f : Int) : Prop where
  heap : w.heap[g]? = some (.cells (FrC m A n c k f) 43 (0, 0))
  base : B ≤ g
  own : w.ownsRow B 5 1 (.slice A n c) n (bcells L)
  le : k ≤ n
  lo : 16 ≤ m
  hi : m ≤ 65536
section
variable {B : Nat} {w w' : World} {g : Nat} {m : Int} {A : Option Addr} {n c k : Nat} {L : List UInt8} {f : Int}
theorem FrS.below (h : FrS B w g m A n c k L f) (hb : Below w.heap.size w w') : FrS B w' g m A n c k L f :=
  ⟨(hb.block g (Array.getElem?_eq_some_iff.1 h.heap).1).trans h.heap, h.base, own_below h.own hb, h.le, h.lo, h.hi⟩
theorem FrS.lt (h : FrS B w g m A n c k L f) : g < w.heap.size := (Array.getElem?_eq_some_iff.1 h.heap).1
theorem FrS.len (h : FrS B w g m A n c k L f) : L.length = n := (own_bytes h.own).1
theorem FrS.bys (h : FrS B w g m A n c k L f) : (A = none ∧ n = 0 ∧ c = 0 ∧ k = 0) ∨ ∃ b, A = some ⟨b, 0, none⟩ ∧ B ≤ b ∧ b ≠ g ∧ n ≤ c ∧ Bys w (some ⟨b, k, none⟩) (n - k) (L.drop k) := by
  obtain ⟨h1, h2⟩ := own_bytes h.own
  have hk := h.le
  rcases h2 with ⟨e1, e2, e3⟩ | ⟨b, e1, e2, ⟨cur, e3⟩, e4, e5⟩
  · exact Or.inl ⟨e1, e2, e3, by omega⟩
  · refine Or.inr ⟨b, e1, e2, ?_, e4, by rw [List.length_drop]; omega, Or.inr ⟨b, k, rfl, fun j x hx => ?_⟩, fun e => by cases e⟩
    · intro e
      rw [e, h.heap] at e3
      injection e3 with e3
      injection e3 with _ e6 _
      revert e6
      decide
    · rw [List.getElem?_drop] at hx
      exact e5 _ x hx
theorem frMade (h : FrS B w g m A n c k L f) : Calls Tryd.prog 16 #[.pointer (some ⟨g, 0, none⟩)] w fun e w' => e = .returned (.bool true) ∧ w' = w := by
  obtain ⟨h1, h2, h3, h4, h5⟩ := blk_row h.heap
  have hm : decide (0 < m) = true := by have := h.lo; simp; omega
  clear h
  go_enter Tryd.func16, Tryd.ntmps16
  go_wp2_with fail
  go_ret
  exact ⟨rfl, rfl⟩
/-- The buffer: what is not taken. -/
theorem frBuffer (h : FrS B w g m A n c k L f) (hn : n ≤ 2000000000) : Calls Tryd.prog 19 #[.pointer (some ⟨g, 0, none⟩)] w fun e w' => ∃ A' c', e = .returned (.slice A' (n - k) c') ∧ Bys w' A' (n - k) (L.drop k) ∧ Below w.heap.size w w' ∧ (A' = none → c' = 0) ∧ (n ≤ c' + k) ∧ (A' = none ∨ ∃ b o, A' = some ⟨b, o, none⟩) := by
  obtain ⟨h1, h2, h3, h4, h5⟩ := blk_row h.heap
  have hle := h.le
  have hL := h.len
  rcases h.bys with ⟨rfl, rfl, rfl, rfl⟩ | ⟨b, rfl, hb, _, hc, hB⟩
  · have hL0 : L = [] := List.eq_nil_of_length_eq_zero hL
    subst hL0
    clear h hle
    go_enter Tryd.func19, Tryd.ntmps19
    go_wp2_with fail
    go_quiet (fail)
    go_wp2_with fail
    go_ret
    exact ⟨_, _, rfl, ⟨rfl, Or.inl rfl, fun _ => rfl⟩, below_drewN (Below.refl _ _) _, fun _ => rfl, by omega, Or.inl rfl⟩
  · have HB := Lib.hid hB
    have k0 : (0 : Int) ≤ (k : Int) := by omega
    have k1 : (k : Int) ≤ (n : Int) := by omega
    clear h hB
    go_enter Tryd.func19, Tryd.ntmps19
    go_wp2_with fail
    go_quiet (fail)
    go_wp2_with fail
    · go_ret
      have hd : L.drop k = [] := List.drop_eq_nil_of_le (by omega)
      have hn0 : n - k = 0 := by omega
      refine ⟨_, _, rfl, ⟨by rw [hd, hn0]; rfl, Or.inr ⟨_, _, rfl, fun j x hx => by rw [hd] at hx; simp at hx⟩, fun e => by cases e⟩, below_drewN (Below.refl _ _) _, (fun e => by cases e), by omega, Or.inr ⟨_, _, rfl⟩⟩
    · go_ret
      exact ⟨_, _, rfl, HB.out.below (below_drewN (Below.refl _ _) _), below_drewN (Below.refl _ _) _, (fun e => by cases e), by omega, Or.inr ⟨_, _, rfl⟩⟩
/-- How many bytes are left. -/
theorem frLeft (h : FrS B w g m A n c k L f) (hn : n ≤ 2000000000) : Calls Tryd.prog 9 #[.pointer (some ⟨g, 0, none⟩)] w fun e w' => e = .returned (.int .i64 ((n - k : Nat) : Int)) ∧ Below w.heap.size w w' := by
  have H := Lib.hid h
  clear h
  go_enter Tryd.func9, Tryd.ntmps9
  go_wp2_with fail
  refine (frMade H.out).mono ?_
  rintro e w1 ⟨rfl, rfl⟩
  go_wp2_with fail
  refine (frBuffer H.out hn).mono ?_
  rintro e w2 ⟨A', c', rfl, _, hb, _⟩
  go_wp2_with fail
  go_ret
  exact ⟨rfl, hb⟩
end
/-- What a call on the framer at g, its bytes at o, leaves as it was. -/
structure Fd (w w' : World) (g : Nat) (o : Option Nat) : Prop where
  os : w'.os = w.os
  tape : w'.tape = w.tape
  output : w'.output = w.output
  size : w.heap.size ≤ w'.heap.size
  block : ∀ b, b < w.heap.size → b ≠ g → some b ≠ o → w'.heap[b]? = w.heap[b]?
/-- The bytes lie where they lay, or anew. -/
def NewO (w : World) (o o' : Option Nat) : Prop := ∀ b, o' = some b → o = some b ∨ w.heap.size ≤ b
section
variable {w w1 w2 : World} {g B : Nat} {o o1 o2 : Option Nat}
theorem Fd.refl (w : World) (g : Nat) (o : Option Nat) : Fd w w g o := ⟨rfl, rfl, rfl, Nat.le_refl _, fun _ _ _ _ => rfl⟩
theorem Fd.of_below (h : Below w.heap.size w w1) : Fd w w1 g o := ⟨h.os, h.tape, h.output, h.size, fun b hb _ _ => h.block b hb⟩
theorem Fd.more (h : Fd w w1 g o) (hb : Below w1.heap.size w1 w2) : Fd w w2 g o := ⟨hb.os.trans h.os, hb.tape.trans h.tape, hb.output.trans h.output, Nat.le_trans h.size hb.size, fun b hl h1 h2 => (hb.block b (Nat.lt_of_lt_of_le hl h.size)).trans (h.block b hl h1 h2)⟩
theorem Fd.set (h : Fd w w1 g o) (cs : Array Value) : Fd w (w1.setRow g cs) g o := ⟨h.os, h.tape, h.output, by simpa using h.size, fun b hl h1 h2 => (setRow_other w1 g b cs h1).trans (h.block b hl h1 h2)⟩
theorem Fd.grown (h : Fd w w1 g o) {r : Option Nat} (hg : w1.grownBy w2 r) (hr : ∀ b, r = some b → o = some b ∨ w.heap.size ≤ b) : Fd w w2 g o :=
  ⟨hg.os.trans h.os, hg.tape.trans h.tape, hg.output.trans h.output, Nat.le_trans h.size hg.size, fun b hl h1 h2 => (hg.block b (Nat.lt_of_lt_of_le hl h.size) (fun e => by
    rcases hr b e.symm with h3 | h3
    · exact h2 h3.symm
    · omega)).trans (h.block b hl h1 h2)⟩
theorem Fd.trans (h : Fd w w1 g o) (hk : Fd w1 w2 g o1) (hn : NewO w o o1) : Fd w w2 g o :=
  ⟨hk.os.trans h.os, hk.tape.trans h.tape, hk.output.trans h.output, Nat.le_trans h.size hk.size, fun b hl h1 h2 => (hk.block b (Nat.lt_of_lt_of_le hl h.size) h1 (fun e => by
    rcases hn b e.symm with h3 | h3
    · exact h2 h3.symm
    · omega)).trans (h.block b hl h1 h2)⟩
theorem NewO.refl (w : World) (o : Option Nat) : NewO w o o := fun _ h => Or.inl h
theorem NewO.trans (h : NewO w o o1) (hs : w.heap.size ≤ w1.heap.size) (k : NewO w1 o1 o2) : NewO w o o2 := fun b e => by
  rcases k b e with h1 | h1
  · exact h b h1
  · exact Or.inr (by omega)
theorem NewO.none (w : World) (o : Option Nat) : NewO w o none := fun _ h => by cases h
theorem Fd.below (h : Fd w w1 g o) (hg : B ≤ g) (ho : ∀ b, o = some b → B ≤ b) (hB : B ≤ w.heap.size) : Below B w w1 :=
  ⟨h.os, h.tape, h.output, h.size, fun b hb => h.block b (by omega) (by omega) (fun e => by have := ho b e.symm; omega)⟩
end
/-- A framer: its limit, its bytes, its error; the bytes lie in the block o. -/
def Fr (B : Nat) (w : World) (g : Nat) (o : Option Nat) (m : Int) (b : List UInt8) (f : Int) : Prop :=
  ∃ A n c k L, FrS B w g m A n c k L f ∧ L.drop k = b ∧ 2 * k ≤ n ∧ (Value.slice A n c).ownBlock = o
section
variable {B : Nat} {w w' : World} {g g2 : Nat} {o o2 : Option Nat} {m m2 : Int} {b b2 : List UInt8} {f f2 : Int}
theorem Fr.below (h : Fr B w g o m b f) (hb : Below w.heap.size w w') : Fr B w' g o m b f := by
  obtain ⟨A, n, c, k, L, h1, h2⟩ := h
  exact ⟨A, n, c, k, L, h1.below hb, h2⟩
theorem Fr.gB (h : Fr B w g o m b f) : B ≤ g := by
  obtain ⟨A, n, c, k, L, h1, h2⟩ := h
  exact h1.base
theorem Fr.lt (h : Fr B w g o m b f) : g < w.heap.size := by
  obtain ⟨A, n, c, k, L, h1, h2⟩ := h
  exact h1.lt
theorem Fr.lim (h : Fr B w g o m b f) : 16 ≤ m ∧ m ≤ 65536 := by
  obtain ⟨A, n, c, k, L, h1, h2⟩ := h
  exact ⟨h1.lo, h1.hi⟩
theorem Fr.gT (h : Fr B w g o m b f) : ∃ cs, w.heap[g]? = some (.cells cs 43 (0, 0)) := by
  obtain ⟨A, n, c, k, L, h1, h2⟩ := h
  exact ⟨_, h1.heap⟩
theorem Fr.oT (h : Fr B w g o m b f) : ∀ d, o = some d → B ≤ d ∧ ∃ cs, w.heap[d]? = some (.cells cs 5 (0, 0)) := by
  obtain ⟨A, n, c, k, L, h1, h2, h3, rfl⟩ := h
  intro d e
  rcases h1.own.2 with ⟨h4, _⟩ | ⟨g, cap, cur, e2, h4, h5, _⟩
  · rw [h4] at e; cases e
  · rw [e2] at e
    obtain rfl : g = d := by simpa [Value.ownBlock] using e
    exact ⟨h4, cur, h5⟩
theorem Fr.oB (h : Fr B w g o m b f) : ∀ d, o = some d → B ≤ d := fun d e => (h.oT d e).1
/-- What a call on a framer leaves as it was: all other blocks, and those of no framer and of no bytes. -/
theorem Fr.other (h : Fr B w g o m b f) (hd : Fd w w' g o) {d : Nat} {cs : Array Value} {t : TypeId} (hk : w.heap[d]? = some (.cells cs t (0, 0))) (h1 : t ≠ 43) (h2 : t ≠ 5) : w'.heap[d]? = some (.cells cs t (0, 0)) := by
  refine (hd.block d (Array.getElem?_eq_some_iff.1 hk).1 ?_ ?_).trans hk
  · rintro rfl
    obtain ⟨cs2, h3⟩ := h.gT
    rw [h3] at hk
    injection hk with hk
    injection hk with _ h4 _
    exact h1 h4.symm
  · intro e
    obtain ⟨_, cs2, h3⟩ := h.oT d e.symm
    rw [h3] at hk
    injection hk with hk
    injection hk with _ h4 _
    exact h2 h4.symm
/-- A second framer is as it was. -/
theorem Fr.second (h : Fr B w g o m b f) (hd : Fd w w' g o) (k : Fr B w g2 o2 m2 b2 f2) (hg : g2 ≠ g) (ho : ∀ d, o2 = some d → o ≠ some d) : Fr B w' g2 o2 m2 b2 f2 := by
  have hgo : some g2 ≠ o := by
    intro e
    obtain ⟨_, cs2, h3⟩ := h.oT g2 e.symm
    obtain ⟨cs3, h4⟩ := k.gT
    rw [h3] at h4
    injection h4 with h4
    injection h4 with _ h5 _
    revert h5
    decide
  have hog : ∀ d, o2 = some d → d ≠ g := by
    rintro d e rfl
    obtain ⟨_, cs2, h3⟩ := k.oT d e
    obtain ⟨cs3, h4⟩ := h.gT
    rw [h3] at h4
    injection h4 with h4
    injection h4 with _ h5 _
    revert h5
    decide
  obtain ⟨A, n, c, q, L, h1, h2, h3, h4⟩ := k
  refine ⟨A, n, c, q, L, ⟨(hd.block g2 h1.lt hg hgo).trans h1.heap, h1.base, ⟨h1.own.1, ?_⟩, h1.le, h1.lo, h1.hi⟩, h2, h3, h4⟩
  rcases h1.own.2 with h5 | ⟨d, cap, cur, e2, h5, h6, h7⟩
  · exact Or.inl h5
  · have h8 : o2 = some d := by rw [← h4, e2]; rfl
    exact Or.inr ⟨d, cap, cur, e2, h5, (hd.block d (Array.getElem?_eq_some_iff.1 h6).1 (hog d h8) (fun e => ho d h8 e.symm)).trans h6, h7⟩
end
theorem u8_info : (Tryd.prog.info? 5).map (fun i => (i.zero, i.size, i.bytes)) = some (some (.int .u8 0), 1, 1) := by kernel_rfl
theorem strC (s : List UInt8) : Lib.strCells ⟨s.toArray⟩ = bcells s := by simp [Lib.strCells, bcells]
theorem slice_of {w : World} {B : Nat} {v : Value} {n : Nat} {xs : List Value} {t : TypeId} {z : Nat} (h : w.ownsRow B t z v n xs) : ∃ A c, v = .slice A n c := by
  rcases h.2 with ⟨rfl, hn⟩ | ⟨g, cap, cur, rfl, _⟩
  · exact ⟨none, 0, by rw [hn]⟩
  · exact ⟨_, _, rfl⟩
theorem own_base {w : World} {B B' : Nat} {t : TypeId} {z : Nat} {v : Value} {n : Nat} {xs : List Value} (h : w.ownsRow B t z v n xs) (hB : B' ≤ B) : w.ownsRow B' t z v n xs := by
  refine ⟨h.1, ?_⟩
  rcases h.2 with hn | ⟨g, cap, cur, e, hb, rest⟩
  · exact .inl hn
  · exact .inr ⟨g, cap, cur, e, Nat.le_trans hB hb, rest⟩
theorem own_set {w : World} {B g : Nat} {t t2 : TypeId} {z : Nat} {v : Value} {n : Nat} {xs : List Value} {cs cs2 : Array Value} (h : w.ownsRow B t z v n xs) (hg : w.heap[g]? = some (.cells cs t2 (0, 0))) (ht : t ≠ t2) : (w.setRow g cs2).ownsRow B t z v n xs := by
  refine ⟨h.1, ?_⟩
  rcases h.2 with hn | ⟨d, cap, cur, e, hb, hh, rest⟩
  · exact .inl hn
  · refine .inr ⟨d, cap, cur, e, hb, (setRow_other w g d cs2 ?_).trans hh, rest⟩
    rintro rfl
    rw [hh] at hg
    injection hg with hg
    injection hg with _ h4 _
    exact ht h4
/-- A string's bytes onto the own row: where the row lies then. -/
theorem wpList_strapp {w : World} {ops : Array Oper} {rest : List Oper} {o : Oper} {a : Act} {Q : Exit → Act → World → Prop} (hgd : o.guard = none) (sl x : Operand)
    (ho : o.op = .call { callee := .builtin .append, args := #[sl, x], argTypes := #[41, 9] })
    (base : Nat) (A : Option Addr) (n c : Nat) (L s : List UInt8) (hs : a.eval sl = .slice A n c) (hown : w.ownsRow base 5 1 (.slice A n c) n (bcells L)) (hx : a.eval x = .string ⟨s.toArray⟩)
    (hb : n + s.length ≤ 2000000000) (hbase : base ≤ w.heap.size)
    (h : ∀ A' c' w', w'.ownsRow base 5 1 (.slice A' (n + s.length) c') (n + s.length) (bcells (L ++ s)) → w.grownBy w' (Value.slice A n c).ownBlock → NewO w (Value.slice A n c).ownBlock (Value.slice A' (n + s.length) c').ownBlock → wpList Tryd.prog ops Q rest (a.put o.dst (.slice A' (n + s.length) c')) w') : wpList Tryd.prog ops Q (o :: rest) a w := by
  obtain ⟨i, hi, hz0, hz1, hz2⟩ := info_parts u8_info
  have hsz : (ByteArray.mk s.toArray).size = s.length := by show s.toArray.size = _; simp
  refine wpList_plain hgd fun K hK => ?_
  obtain ⟨v', w', hr, h2, h3, _⟩ := Lib.run_append_own_string (P := Tryd.prog) w base 41 9 o.type 5 i Tryd.underlying41 Tryd.underlying9 hi hz0 hz1 hz2 (.slice A n c) n (bcells L) hown ⟨s.toArray⟩ (by rw [hsz]; unfold maxLen; omega) (by rw [hsz]; omega) hbase
  have hnew : NewO w (Value.slice A n c).ownBlock v'.ownBlock := by
    rcases hown.2 with ⟨e, hn⟩ | ⟨g, cap, cur, e, hbg, hg, hnc, hcm, hcs, htake⟩
    · rw [e] at hr
      subst hn
      have hL : bcells L = [] := by have := hown.1; exact List.eq_nil_of_length_eq_zero (by omega)
      obtain ⟨v2, w2, hr2, k2, _⟩ := Lib.run_append_own_string (P := Tryd.prog) w w.heap.size 41 9 o.type 5 i Tryd.underlying41 Tryd.underlying9 hi hz0 hz1 hz2 (.slice none 0 0) 0 [] (World.ownsRow_nil _ _ _ _) ⟨s.toArray⟩ (by rw [hsz]; unfold maxLen; omega) (by rw [hsz]; omega) (Nat.le_refl _)
      rw [hr] at hr2
      injection hr2 with e1 e2
      subst e1
      exact fun d hd => Or.inr (k2.lt d hd).1
    · rw [e] at hr
      injection e with e1 e2 e3
      subst e1 e3
      by_cases hroom : n + (ByteArray.mk s.toArray).size ≤ c
      · have hcs' : cur.size = c := by simpa using hcs
        have hr2 := Lib.run_append_room_string (P := Tryd.prog) w 41 9 o.type 5 i Tryd.underlying41 Tryd.underlying9 hi hz1 g n c cur hg ⟨s.toArray⟩ hroom (by omega)
        rw [hr] at hr2
        injection hr2 with e1 e2
        subst e1
        exact fun d hd => Or.inl hd
      · have holds : ∀ j u, (bcells L)[j]? = some u → w.cell? ((⟨g, 0, none⟩ : Addr).add j) = some u := hown.cells (g := g) rfl
        have hr2 := Lib.run_append_grow_string (P := Tryd.prog) w 41 9 o.type 5 i (.int .u8 0) Tryd.underlying41 Tryd.underlying9 hi hz0 ⟨g, 0, none⟩ n c (bcells L) (by rw [hz1]; exact hown.1) holds ⟨s.toArray⟩ (by omega) (by rw [hsz]; omega) (by rw [hz2, hsz]; exact growslice_fits (by omega) (by omega))
        rw [hr] at hr2
        injection hr2 with e1 e2
        subst e1
        exact fun d hd => Or.inr (by simp only [Value.ownBlock, Option.some.injEq] at hd; omega)
  rw [hsz, strC, ← bcells_append] at h2
  obtain ⟨A', c', rfl⟩ := slice_of h2
  unfold Oper.wp execOp
  simp only [ho, resolve, invoke, builtin, Sem.run_bind, Sem.run_pure, Result.andThen_ok, List.map_toArray, List.map_cons, List.map_nil, hs, hx, hr]
  exact hK _ _ (h A' c' w' h2 h3 hnew)
/-- Bytes onto nothing: a row anew. -/
theorem wpList_anew {w : World} {ops : Array Oper} {rest : List Oper} {o : Oper} {a : Act} {Q : Exit → Act → World → Prop} (hgd : o.guard = none) (sl x : Operand)
    (ho : o.op = .call { callee := .builtin .append, args := #[sl, x], argTypes := #[41, 41] }) (hs : a.eval sl = .slice none 0 0)
    (A : Option Addr) (n c : Nat) (l : List UInt8) (hx : a.eval x = .slice A n c) (hl : Bys w A n l) (hc : A = none → c = 0) (hA : A = none ∨ ∃ b o, A = some ⟨b, o, none⟩) (hn : n ≤ 2000000000)
    (h : ∀ A' c' w', w'.ownsRow w.heap.size 5 1 (.slice A' n c') n (bcells l) → Below w.heap.size w w' → wpList Tryd.prog ops Q rest (a.put o.dst (.slice A' n c')) w') : wpList Tryd.prog ops Q (o :: rest) a w := by
  obtain ⟨i, hi, hz0, hz1, hz2⟩ := info_parts u8_info
  obtain ⟨rfl, h2, h3⟩ := hl
  have hb : ∀ w', w.grownBy w' (Value.slice none 0 0).ownBlock → Below w.heap.size w w' := fun w' hg => (Below.refl _ _).grown hg (Nat.le_refl _) (fun k hk => by cases hk)
  rcases hA with rfl | ⟨b, off, rfl⟩
  · obtain rfl := hc rfl
    have h0 := h3 rfl
    rw [h0] at hx h
    have : l = [] := List.eq_nil_of_length_eq_zero h0
    subst this
    exact wpList_append_own_none hgd sl x _ ho w.heap.size _ i 1 Tryd.underlying41 hi (.slice none 0 0) 0 _ hs (World.ownsRow_nil _ _ _ _) hx (h _ _ w (World.ownsRow_nil _ _ _ _) (Below.refl _ _))
  · rcases h2 with e | ⟨b', off', e, hcell⟩
    · cases e
    cases e
    refine wpList_append_own w hgd sl x _ ho w.heap.size _ i _ 1 1 Tryd.underlying41 hi hz0 hz1 hz2 rfl (by decide) (.slice none 0 0) 0 [] hs (World.ownsRow_nil _ _ _ _) ⟨b, off, none⟩ l.length c (bcells l) hx (by rw [bcells_len]; omega) ?_ (bcells_one l) (by unfold maxLen; omega) (by omega) (Nat.le_refl _) ?_
    · intro j u hu
      simp only [bcells, List.getElem?_map, Option.map_eq_some_iff] at hu
      obtain ⟨y, hy, rfl⟩ := hu
      rw [add_p]
      exact hcell j y hy
    · intro v' w' hown' hgr _
      rw [Nat.zero_add, List.nil_append] at hown'
      obtain ⟨A', c', rfl⟩ := slice_of hown'
      exact h A' c' w' hown' (hb _ hgr)
section
variable {B : Nat} {w w' : World} {g : Nat} {o : Option Nat} {m : Int} {b : List UInt8} {f : Int}
theorem frPush (h : Fr B w g o m b 0) (s : List UInt8) (hs : b.length + s.length ≤ 900000000) :
    Calls Tryd.prog 7 #[.pointer (some ⟨g, 0, none⟩), .string ⟨s.toArray⟩] w fun e w' => e = .returned (.tuple #[]) ∧ ∃ o', Fr B w' g o' m (b ++ s) 0 ∧ Fd w w' g o ∧ NewO w o o' := by
  obtain ⟨A, n, c, k, L, hS, hd, h2, ho⟩ := h
  obtain ⟨a1, a2, a3, a4, a5⟩ := blk_row hS.heap
  have hle := hS.le
  have hL := hS.len
  have hbl : b.length = n - k := by rw [← hd, List.length_drop]; omega
  have hgB : B ≤ w.heap.size := by have := hS.base; omega
  have HS := Lib.hid hS
  have HO := Lib.hid hS.own
  have HD := Lib.hid hd
  have HOO := Lib.hid ho
  clear hd ho
  go_enter Tryd.func7, Tryd.ntmps7
  go_wp2_with fail
  refine (frMade HS.out).mono ?_
  rintro e w1 ⟨rfl, rfl⟩
  clear hS
  go_wp2_with (at_builtin; refine wpList_strapp rfl _ _ rfl B A n c L s rfl HO.out rfl (by omega) hgB ?_)
  intro A' c' w2 hown' hgr hnew
  have hne : g ≠ w1.heap.size := by omega
  have hh := HS.out.heap
  have hgo : some g ≠ (Value.slice A n c).ownBlock := by
    intro e
    obtain ⟨cs, h9⟩ := (Fr.oT (b := L.drop k) ⟨A, n, c, k, L, HS.out, rfl, h2, rfl⟩ g e.symm).2
    rw [hh] at h9
    injection h9 with h9
    injection h9 with _ h8 _
    revert h8
    decide
  have hh2 := (hgr.block g a4 hgo).trans hh
  obtain ⟨b1, b2, b3, b4, b5⟩ := blk_row hh2
  have hfin : FrS B (w2.setRow g (FrC m A' (n + s.length) c' k 0)) g m A' (n + s.length) c' k (L ++ s) 0 :=
    ⟨setRow_heap w2 g _ _ _ _ hh2, HS.out.base, own_set hown' hh2 (by decide), by omega, HS.out.lo, HS.out.hi⟩
  have hfd := ((Fd.refl w1 g (Value.slice A n c).ownBlock).grown hgr (fun d e => Or.inl e)).set (FrC m A' (n + s.length) c' k 0)
  have HFIN := Lib.hid hfin
  have HFD := Lib.hid hfd
  have HNEW := Lib.hid hnew
  clear hfin hfd hnew hown' hgr hh hh2 hgo a1 a2 a3 a4 a5
  go_wp2_with fail
  go_end0
  have hdr : (L ++ s).drop k = b ++ s := by rw [List.drop_append_of_le_length (by omega), HD.out]
  rw [← HOO.out]
  exact ⟨rfl, _, ⟨A', n + s.length, c', k, L ++ s, HFIN.out, hdr, by omega, rfl⟩, HFD.out, HNEW.out⟩
/-- An error stays: nothing is taken any more. -/
theorem frPushE (h : Fr B w g o m b f) (hf : f ≠ 0) (s : List UInt8) :
    Calls Tryd.prog 7 #[.pointer (some ⟨g, 0, none⟩), .string ⟨s.toArray⟩] w fun e w' => e = .returned (.tuple #[]) ∧ w' = w := by
  obtain ⟨A, n, c, k, L, hS, hd, h2, ho⟩ := h
  obtain ⟨a1, a2, a3, a4, a5⟩ := blk_row hS.heap
  have HS := Lib.hid hS
  have hf2 : (f == 0) = false := by simpa using hf
  clear hd ho hS hf
  go_enter Tryd.func7, Tryd.ntmps7
  go_wp2_with fail
  refine (frMade HS.out).mono ?_
  rintro e w1 ⟨rfl, rfl⟩
  go_wp2_with fail
  go_end0
  exact ⟨rfl, rfl⟩
theorem frLeft' (h : Fr B w g o m b f) (hb : b.length ≤ 900000000) : Calls Tryd.prog 9 #[.pointer (some ⟨g, 0, none⟩)] w fun e w' => e = .returned (.int .i64 b.length) ∧ Below w.heap.size w w' := by
  obtain ⟨A, n, c, k, L, hS, rfl, h2, ho⟩ := h
  have hl := hS.len
  have hk := hS.le
  rw [List.length_drop] at hb ⊢
  rw [hl] at hb ⊢
  exact frLeft hS (by omega)
set_option maxHeartbeats 1000000 in
/-- What is taken goes. -/
theorem frDrop (h : Fr B w g o m b f) (j : Nat) (hj : j ≤ b.length) (hb : b.length ≤ 900000000) :
    Calls Tryd.prog 18 #[.pointer (some ⟨g, 0, none⟩), .int .i64 j] w fun e w' => e = .returned (.tuple #[]) ∧ ∃ o', Fr B w' g o' m (b.drop j) f ∧ Fd w w' g o ∧ NewO w o o' := by
  obtain ⟨A, n, c, k, L, hS, hd, h2, ho⟩ := h
  obtain ⟨a1, a2, a3, a4, a5⟩ := blk_row hS.heap
  have hle := hS.le
  have hL := hS.len
  have hbl : b.length = n - k := by rw [← hd, List.length_drop]; omega
  have hgB : B ≤ w.heap.size := by have := hS.base; omega
  obtain ⟨q, hq⟩ : ∃ q : Nat, q = k + j := ⟨_, rfl⟩
  have hqI : (k : Int) + (j : Int) = (q : Int) := by omega
  have hqn : q ≤ n := by omega
  have HSUM : Hid (IntKind.i64.wrap (q : Int) = q) := IntWalk.i64_in _ (by omega)
  have hS2 : FrS B (w.setRow g (FrC m A n c q f)) g m A n c q L f := ⟨setRow_heap w g _ _ _ _ hS.heap, hS.base, own_set hS.own hS.heap (by decide), hqn, hS.lo, hS.hi⟩
  have hfd := (Fd.refl w g o).set (FrC m A n c q f)
  have HDR : Hid (L.drop q = b.drop j) := by show _ = _; rw [← hd, List.drop_drop, hq]
  have HO := Lib.hid ho
  clear hd ho hq hS
  go_enter Tryd.func18, Tryd.ntmps18
  have hwrap := HSUM.out
  go_wp2_with fail
  clear hwrap a1 a2 a3 a4 a5
  obtain ⟨w1, hw1⟩ : ∃ w1, w1 = w.setRow g (FrC m A n c q f) := ⟨_, rfl⟩
  rw [← hw1] at hS2 hfd ⊢
  clear hw1
  have HS2 := Lib.hid hS2
  have HFD := Lib.hid hfd
  obtain ⟨r, hr⟩ : ∃ r : Nat, r = n - q := ⟨_, rfl⟩
  have HR := Lib.hid hr
  clear hfd hS2
  have hlt : g < w1.heap.size := HS2.out.lt
  refine wp_region_held_drew (S := (fun w' => Below w1.heap.size w1 w')) (by kernel_rfl) ((Below.refl _ _).drew) (fun hHeld => ?_)
  refine wpAnyH_take (i := 0) (oi := ({ dst := some 12, op := Go.Op.move (Go.Operand.tmp 0), type := 22, pos := "frame.go:105", after := #[], guard := none } : Oper)) (v := ?vv1_0) rfl (by kernel_rfl) (by kernel_rfl) (by kernel_rfl) (fun _ _ _ h => h) (Or.inl ⟨by rfl, ?hy1_0⟩) (by assumption) ?rest1_0
  case hy1_0 => (intro w hSw; (try dsimp only at hSw); (try go_split_ands); go_simp; all_goals with_reducible rfl)
  try simp only [Act.put, List.setIfInBounds_toArray, List.set_cons_zero, List.set_cons_succ]
  refine wpAnyH_take (i := 1) (oi := ({ dst := some 13, op := Go.Op.nilCheck (Go.Operand.tmp 12), type := 0, pos := "frame.go:105", after := #[{ on := 0, ground := Go.Ground.data }], guard := none } : Oper)) (v := ?vv1_1) rfl (by kernel_rfl) (by kernel_rfl) (by kernel_rfl) (fun _ _ _ h => h) (Or.inl ⟨by rfl, ?hy1_1⟩) (by assumption) ?rest1_1
  case hy1_1 => (intro w hSw; (try dsimp only at hSw); (try go_split_ands); go_simp; all_goals with_reducible rfl)
  try simp only [Act.put, List.setIfInBounds_toArray, List.set_cons_zero, List.set_cons_succ]
  refine wpAnyH_take (i := 2) (oi := ({ dst := some 14, op := Go.Op.fieldAddr 43 (Go.Operand.tmp 13) 2, type := 0, pos := "frame.go:105", after := #[{ on := 1, ground := Go.Ground.data }], guard := none } : Oper)) (v := ?vv1_2) rfl (by kernel_rfl) (by kernel_rfl) (by kernel_rfl) (fun _ _ _ h => h) (Or.inl ⟨by rfl, ?hy1_2⟩) (by assumption) ?rest1_2
  case hy1_2 => (intro w hSw; (try dsimp only at hSw); (try go_split_ands); go_simp; all_goals with_reducible rfl)
  try simp only [Act.put, List.setIfInBounds_toArray, List.set_cons_zero, List.set_cons_succ]
  refine wpAnyH_take (i := 3) (oi := ({ dst := some 15, op := Go.Op.load 3 (Go.Operand.tmp 14), type := 3, pos := "frame.go:105", after := #[{ on := 2, ground := Go.Ground.data }], guard := none } : Oper)) (v := ?vv1_3) rfl (by kernel_rfl) (by kernel_rfl) (by kernel_rfl) (fun _ _ _ h => h) (Or.inl ⟨by rfl, ?hy1_3⟩) (by assumption) ?rest1_3
  case hy1_3 => (intro w hSw; (try dsimp only at hSw); have ⟨b1, b2, b3, b4, b5⟩ := blk_row (HS2.out.below hSw).heap; go_simp; all_goals with_reducible rfl)
  try simp only [Act.put, List.setIfInBounds_toArray, List.set_cons_zero, List.set_cons_succ]
  refine wpAnyH_take (i := 4) (oi := ({ dst := some 16, op := Go.Op.move (Go.Operand.tmp 0), type := 22, pos := "frame.go:105", after := #[], guard := none } : Oper)) (v := ?vv1_4) rfl (by kernel_rfl) (by kernel_rfl) (by kernel_rfl) (fun _ _ _ h => h) (Or.inl ⟨by rfl, ?hy1_4⟩) (by assumption) ?rest1_4
  case hy1_4 => (intro w hSw; (try dsimp only at hSw); (try go_split_ands); go_simp; all_goals with_reducible rfl)
  try simp only [Act.put, List.setIfInBounds_toArray, List.set_cons_zero, List.set_cons_succ]
  refine wpAnyH_ready (rs := [5]) (by kernel_rfl) (by simp) ?_
  refine AllReadyH.cons (o := ({ dst := some 17, op := Go.Op.call { callee := Go.Callee.value (Go.Operand.func 9), args := #[Go.Operand.tmp 16], argTypes := #[22] }, type := 3, pos := "frame.go:105", after := #[{ on := 4, ground := Go.Ground.data }], guard := none } : Oper)) rfl (fun K hK => ?_) AllReadyH.nil
  go_simp
  (go_at_call 9; refine (frLeft (HS2.out.below hHeld) (by omega)).mono ?_; rintro e w6 ⟨rfl, hb6⟩; rw [← HR.out])
  refine hK.out _ _ ?_ (fun hHeld => ?_)
  · (exact below_more hHeld hb6)
  clear hK K
  try simp only [Act.put, List.setIfInBounds_toArray, List.set_cons_zero, List.set_cons_succ]
  refine wpAnyH_take (i := 6) (oi := ({ dst := some 18, op := Go.Op.binOp Go.BinOp.gtr 3 (Go.Operand.tmp 15) (Go.Operand.tmp 17) 3, type := 4, pos := "frame.go:105", after := #[{ on := 3, ground := Go.Ground.data }, { on := 5, ground := Go.Ground.data }], guard := none } : Oper)) (v := ?vv1_6) rfl (by kernel_rfl) (by kernel_rfl) (by kernel_rfl) (fun _ _ _ h => h) (Or.inl ⟨by rfl, ?hy1_6⟩) (by assumption) ?rest1_6
  case hy1_6 => (intro w hSw; (try dsimp only at hSw); (try go_split_ands); go_simp; all_goals with_reducible rfl)
  try simp only [Act.put, List.setIfInBounds_toArray, List.set_cons_zero, List.set_cons_succ]
  refine wpAnyH_done (by kernel_rfl) ?_ _
  replace HFD := Lib.hid (HFD.out.more hHeld)
  replace HS2 := Lib.hid (HS2.out.below hHeld)
  obtain ⟨b1, b2, b3, b4, b5⟩ := blk_row HS2.out.heap
  by_cases hgt : r < q
  · have hgd : decide ((r : Int) < (q : Int)) = true := by simpa using hgt
    go_wp2_with fail
    refine (frBuffer HS2.out (by omega)).mono ?_
    rintro e w7 ⟨A2, c2, rfl, hby, hb7, hc2, _, hA2⟩
    have hB7 : B ≤ w7.heap.size := by have := HS2.out.base; have := hb7.size; omega
    replace HS2 := Lib.hid (HS2.out.below hb7)
    replace HFD := Lib.hid (HFD.out.more hb7)
    have HBY := Lib.hid hby
    have HC2 := Lib.hid hc2
    clear hby hc2 hb7 b1 b2 b3 b4 b5
    go_wp2_with (at_builtin; refine wpList_anew rfl _ _ rfl rfl A2 (n - q) c2 (L.drop q) rfl HBY.out HC2.out hA2 (by omega) ?_)
    intro A3 c3 w8 hown8 hb8
    replace HS2 := Lib.hid (HS2.out.below hb8)
    have hh := HS2.out.heap
    obtain ⟨b1, b2, b3, b4, b5⟩ := blk_row hh
    have hfin : FrS B (w8.setRow g (FrC m A3 (n - q) c3 0 f)) g m A3 (n - q) c3 0 (L.drop q) f :=
      ⟨setRow_heap w8 g _ _ _ _ hh, HS2.out.base, own_set (own_base hown8 hB7) hh (by decide), by omega, HS2.out.lo, HS2.out.hi⟩
    have HFIN := Lib.hid hfin
    have HNEW : Hid (NewO w o (Value.slice A3 (n - q) c3).ownBlock) := fun d hd => Or.inr (Nat.le_trans HFD.out.size (hown8.lt d hd).1)
    replace HFD := Lib.hid ((HFD.out.more hb8).set (FrC m A3 (n - q) c3 0 f))
    clear hfin hown8 hb8 hh HBY
    go_wp2_with fail
    go_end0
    rw [← HDR.out]
    exact ⟨rfl, _, ⟨A3, n - q, c3, 0, L.drop q, HFIN.out, rfl, by omega, rfl⟩, HFD.out, HNEW.out⟩
  · have hgd : decide ((r : Int) < (q : Int)) = false := by simpa using hgt
    go_wp2_with fail
    go_end0
    rw [← HDR.out]
    exact ⟨rfl, o, ⟨A, n, c, q, L, HS2.out, rfl, by omega, HO.out⟩, HFD.out, NewO.refl _ _⟩
/-- A framer anew. -/
theorem frNew (w : World) (m : Int) (h0 : 16 ≤ m) (h1 : m ≤ 65536) : Calls Tryd.prog 6 #[.int .i64 m] w fun e w' => ∃ g, e = .returned (.pointer (some ⟨g, 0, none⟩)) ∧ Below w.heap.size w w' ∧ w.heap.size ≤ g ∧ Fr w.heap.size w' g none m [] 0 := by
  have d1 : decide (m < 16) = false := by simp; omega
  have d2 : decide (65536 < m) = false := by simp; omega
  go_enter Tryd.func6, Tryd.ntmps6
  go_wp2_with fail
  go_ret
  exact ⟨_, rfl, (Below.refl _ _).alloc (Nat.le_refl _) _, Nat.le_refl _, none, 0, 0, 0, [], ⟨heap_alloc_new w _, Nat.le_refl _, World.ownsRow_nil _ _ _ _, Nat.le_refl _, h0, h1⟩, rfl, by omega, rfl⟩
theorem frNone (w : World) (m : Int) (h : m < 16 ∨ 65536 < m) : Calls Tryd.prog 6 #[.int .i64 m] w fun e w' => e = .returned (.pointer none) ∧ w' = w := by
  rcases h with h | h
  · have d1 : decide (m < 16) = true := by simpa using h
    go_enter Tryd.func6, Tryd.ntmps6
    go_wp2_with fail
    go_ret
    exact ⟨rfl, rfl⟩
  · have d1 : decide (m < 16) = false := by simp; omega
    have d2 : decide (65536 < m) = true := by simpa using h
    go_enter Tryd.func6, Tryd.ntmps6
    go_wp2_with fail
    go_ret
    exact ⟨rfl, rfl⟩
end
end Go.Proofs.YtncgkkhpcgdcaaaDoor
