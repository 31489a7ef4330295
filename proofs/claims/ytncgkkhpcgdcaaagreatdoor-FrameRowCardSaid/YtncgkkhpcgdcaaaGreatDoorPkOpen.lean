/-
  A packet that came in.
-/
import Derived.Test.YtncgkkhpcgdcaaaGreatDoorPkI
import Derived.Test.YtncgkkhpcgdcaaaGreatDoorPkSpec
import Derived.Deep.Slices
import Derived.Deep.Fields
import Derived.ChangeSame
set_option linter.unusedSimpArgs false
set_option linter.unusedVariables false
namespace Go.Proofs.YtncgkkhpcgdcaaaGreatDoor
open Go.RowKit Go.ChangeShapes Go.WideShapes Go.Deep
set_option maxRecDepth 100000
section
variable {H : Type} {enc : TypeId × Value → H} {P : Program} {w : World} {base : Nat} {spare : Nat → Bool} {held : Bool}
theorem open_slice_fields {t e : TypeId} {fs : Array Field} {fuel : Nat} {cs : List Value} {x : DataW H × List MemPlace} (ht : P.underlying t = some (.slice e)) (he : P.underlying e = some (.struct fs))
    (hone : oneCellFields P fs = true) (hC : P.cellsOf e = fs.size) (h : DataW.trod enc P w base spare held fuel t cs = some x) :
    (cs = [.slice none 0 0] ∧ x = (.nil, [])) ∨
    ∃ (a : Addr) (len cap m : Nat) (D : Nat → DataW H) (Pl : Nat → List MemPlace), cs = [.slice (some a) len cap] ∧ base ≤ a.block ∧ len ≤ cap ∧ cap ≤ maxLen ∧ m = (if spare a.block then cap else len) ∧
      x = (.slice ((List.range len).map D) ((List.range (m - len)).map fun j => D (len + j)), MemPlace.row a (m * fs.size) ++ (List.range m).flatMap Pl) ∧
      ∀ i, i < m → ∃ (ys : List (DataW H × List MemPlace)) (n : Nat), D i = .agg (ys.map (·.1)) ∧ Pl i = ys.flatMap (·.2) ∧ ys.length = fs.size ∧
        ∀ (j : Nat) (f : Field), fs[j]? = some f → ∃ (v : Value) (y : DataW H × List MemPlace), w.cell? (a.add (i * fs.size + j)) = some v ∧ ys[j]? = some y ∧ DataW.trod enc P w base spare held n f.type [v] = some y := by
  rcases open_slice ht h with h0 | ⟨a, len, cap, m, n, D, Pl, hcs, hb, hl, hm, hmm, hx, hi⟩
  · exact .inl h0
  · refine .inr ⟨a, len, cap, m, D, Pl, hcs, hb, hl, hm, hmm, by rw [hC] at hx; exact hx, fun i him => ?_⟩
    obtain ⟨cs', hc, ht'⟩ := hi i him
    rw [hC] at hc
    obtain ⟨ys, n', hn', hy, hlen, hyl, hf⟩ := DataW.trod_struct he ht'
    obtain ⟨_, hcl, hat⟩ := World.cells?_some hc
    simp only [Prod.mk.injEq] at hy
    refine ⟨ys, n', hy.1, hy.2, hyl, fun j f hj => ?_⟩
    obtain ⟨ho, hk⟩ := hone_of hone j f hj
    have hjl : j < fs.size := (Array.getElem?_eq_some_iff.1 hj).1
    have hcell := hat j hjl
    have hv : cs'[j]? = some (cs'[j]'(by omega)) := List.getElem?_eq_getElem (by omega)
    have h1 := hf j f hj
    rw [ho, hk] at h1
    have hone' : (cs'.drop j).take 1 = [cs'[j]'(by omega)] := by
      rw [List.drop_eq_getElem_cons (by omega)]
      rfl
    rw [hone'] at h1
    have hys : ys[j]? = some (ys[j]'(by omega)) := List.getElem?_eq_getElem (by omega)
    refine ⟨_, _, ?_, hys, h1.trans hys⟩
    rw [← Go.Deep.add_add, hcell, hv]
end
theorem cells_u8 : Tryz.prog.cellsOf 5 = 1 := by kernel_rfl
theorem cells_bool : Tryz.prog.cellsOf 4 = 1 := by kernel_rfl
theorem cells_u16 : Tryz.prog.cellsOf 31 = 1 := by kernel_rfl
theorem cells_ms : Tryz.prog.cellsOf 33 = 4 := by kernel_rfl
theorem cells_ss : Tryz.prog.cellsOf 34 = 1 := by kernel_rfl
/-- What holds of any packet that comes in. -/
structure Came (p : Pk) (xs : List (List UInt8 × Int)) : Prop where
  ty : 0 ≤ p.ty ∧ p.ty ≤ 255
  qos : 0 ≤ p.qos ∧ p.qos ≤ 255
  id : 0 ≤ p.id ∧ p.id ≤ 65535
  level : 0 ≤ p.level ∧ p.level ≤ 255
  keep : 0 ≤ p.keep ∧ p.keep ≤ 65535
  wq : 0 ≤ p.wq ∧ p.wq ≤ 255
  code : 0 ≤ p.code ∧ p.code ≤ 255
  lens : p.topic.length ≤ 9223372036854775807 ∧ p.load.length ≤ 9223372036854775807 ∧ p.client.length ≤ 9223372036854775807 ∧ p.wt.length ≤ 9223372036854775807 ∧ p.wl.length ≤ 9223372036854775807 ∧ p.user.length ≤ 9223372036854775807 ∧ p.pass.length ≤ 9223372036854775807 ∧ p.codes.length ≤ 9223372036854775807
  num : xs.length ≤ 9223372036854775807
  sub : ∀ x ∈ xs, 0 ≤ x.2 ∧ x.2 ≤ 255 ∧ x.1.length ≤ 9223372036854775807
def subOf (w : World) (b off k : Nat) : List UInt8 × Int := match (rowAt w b)[off + k * 2]?, (rowAt w b)[off + k * 2 + 1]? with
  | some (.string s), some (.int _ q) => (s.data.toList, q)
  | _, _ => ([], 0)
theorem cell_row {w : World} {b i : Nat} {v : Value} (h : w.cell? ⟨b, i, none⟩ = some v) : (rowAt w b)[i]? = some v := by
  unfold World.cell? at h
  unfold rowAt
  cases hh : w.heap[b]? with
  | none => rw [hh] at h; cases h
  | some o =>
    rw [hh] at h
    cases o <;> simp_all
section
variable {H : Type} {enc : TypeId × Value → H}
theorem open_cellSubs {W : World} {sp : Nat → Bool} {hd : Bool} {fuel : Nat} {v : Value} {x : DataW H × List MemPlace} (h : DataW.trod enc Tryz.prog W 0 sp hd fuel 34 [v] = some x) :
    ∃ A n c xs, [v] = [Value.slice A n c] ∧ Subs W A n xs ∧ (A = none → c = 0) ∧ n ≤ 9223372036854775807 ∧ ∀ x ∈ xs, 0 ≤ x.2 ∧ x.2 ≤ 255 ∧ x.1.length ≤ 9223372036854775807 := by
  rcases open_slice_fields Tryz.underlying34 Tryz.underlying42 (by kernel_rfl) (by kernel_rfl) h with ⟨hcs, _⟩ | ⟨a, len, cap, m, D, Pl, hcs, _, hl, hm, hmm, _, hf⟩
  · exact ⟨none, 0, 0, [], hcs, Subs.nil _, fun _ => rfl, by omega, fun x hx => (by cases hx)⟩
  · have hml : len ≤ m := by rw [hmm]; split <;> omega
    have hmax : cap ≤ 9223372036854775807 := by unfold maxLen at hm; omega
    rcases Nat.eq_zero_or_pos len with h0 | h0
    · subst h0
      exact ⟨some a, 0, cap, [], hcs, Subs.nil _, fun e => (by cases e), by omega, fun x hx => (by cases hx)⟩
    have key : ∀ i, i < len → ∃ s q, W.cell? (a.add (i * 2)) = some (.string s) ∧ W.cell? (a.add (i * 2 + 1)) = some (.int .u8 q) ∧ s.size ≤ maxLen ∧ (Lit.int .u8 q).wf = true := by
      intro i hi
      obtain ⟨ys, n, _, _, hyl, hj⟩ := hf i (by omega)
      obtain ⟨v0, y0, c0, _, t0⟩ := hj 0 _ rfl
      obtain ⟨v1, y1, c1, _, t1⟩ := hj 1 _ rfl
      obtain ⟨s, es, _, hs⟩ := DataW.trod_string Tryz.underlying9 t0
      obtain ⟨q, eq, _, hq⟩ := DataW.trod_int Tryz.underlying5 t1
      obtain rfl := (List.cons.inj es).1
      obtain rfl := (List.cons.inj eq).1
      exact ⟨s, q, c0, c1, hs, hq⟩
    obtain ⟨b, off, spot⟩ := a
    obtain ⟨s0, q0, k0, _⟩ := key 0 h0
    have hspot : spot = none := by simpa [Addr.add] using World.cell?_spot k0
    subst hspot
    have add_p : ∀ j, (⟨b, off, none⟩ : Addr).add j = ⟨b, off + j, none⟩ := fun j => by unfold Addr.add; split <;> simp_all
    have key2 : ∀ i, i < len → ∃ s q, (rowAt W b)[off + i * 2]? = some (.string s) ∧ (rowAt W b)[off + i * 2 + 1]? = some (.int .u8 q) ∧ s.size ≤ maxLen ∧ (Lit.int .u8 q).wf = true := by
      intro i hi
      obtain ⟨s, q, h1, h2, h3, h4⟩ := key i hi
      rw [add_p] at h1 h2
      exact ⟨s, q, cell_row h1, by have := cell_row h2; rwa [← Nat.add_assoc] at this, h3, h4⟩
    have hblk : b < W.heap.size := World.block_lt_of_cell? _ _ (by rw [add_p] at k0; exact k0)
    refine ⟨some ⟨b, off, none⟩, len, cap, (List.range len).map (subOf W b off), hcs, ⟨by simp, fun _ => ⟨b, off, rfl, hblk, fun j x hx => ?_⟩⟩, fun e => (by cases e), by omega, fun x hx => ?_⟩
    · have hj : j < len := by have := (List.getElem?_eq_some_iff.1 hx).1; simpa using this
      obtain ⟨s, q, h1, h2, _, _⟩ := key2 j hj
      have hx2 : x = (s.data.toList, q) := by
        simp [hj] at hx
        rw [← hx]
        simp only [subOf, h1, h2]
      obtain ⟨i1, j1⟩ := Array.getElem?_eq_some_iff.1 h1
      obtain ⟨i2, j2⟩ := Array.getElem?_eq_some_iff.1 h2
      refine ⟨by omega, ?_⟩
      subst hx2
      apply Array.ext_getElem?
      intro i
      rw [Array.getElem?_extract]
      match i with
      | 0 => rw [if_pos (by omega), Nat.add_zero, h1]; simp [SbC]
      | 1 => rw [if_pos (by omega), h2]; simp [SbC]
      | i + 2 => rw [if_neg (by omega)]; simp [SbC]
    · rw [List.mem_map] at hx
      obtain ⟨i, hi, rfl⟩ := hx
      obtain ⟨s, q, h1, h2, h3, h4⟩ := key2 i (by simpa using hi)
      have hx2 : subOf W b off i = (s.data.toList, q) := by simp only [subOf, h1, h2]
      rw [hx2]
      have := u8_bd q h4
      refine ⟨this.1, this.2, ?_⟩
      have h5 : s.data.toList.length = s.size := by simp
      unfold maxLen at h3
      show s.data.toList.length ≤ _
      omega
set_option maxHeartbeats 1000000 in
theorem trod_Pk {W : World} {sp : Nat → Bool} {hd : Bool} {fuel : Nat} {cs : List Value} {y : DataW H × List MemPlace} (hsz : cs.length = 24) (hf : DataW.trod enc Tryz.prog W 0 sp hd fuel 36 cs = some y) :
    ∃ p A n c xs, cs = (PkC p A n c).toList ∧ Subs W A n xs ∧ (A = none → c = 0) ∧ Came p xs := by
  match cs, hsz with
  | [c0, c1, c2, c3, c4, c5, c6, c7, c8, c9, c10, c11, c12, c13, c14, c15, c16, c17, c18, c19, c20, c21, c22, c23], _ =>
    obtain ⟨ys, n, _, _, _, hlen0, hg⟩ := DataW.trod_struct Tryz.underlying36 hf
    have hlen : ys.length = 21 := hlen0
    obtain ⟨y0, z0⟩ : ∃ y, DataW.trod enc Tryz.prog W 0 sp hd n 5 [c0] = some y := by
      have h := hg 0 _ rfl
      rw [List.getElem?_eq_getElem (show 0 < ys.length by omega)] at h
      exact ⟨_, by simpa [Value.cells, cells_u8, cells_bool, cells_u16, cells_str, cells_ms, cells_ss] using h⟩
    obtain ⟨y1, z1⟩ : ∃ y, DataW.trod enc Tryz.prog W 0 sp hd n 4 [c1] = some y := by
      have h := hg 1 _ rfl
      rw [List.getElem?_eq_getElem (show 1 < ys.length by omega)] at h
      exact ⟨_, by simpa [Value.cells, cells_u8, cells_bool, cells_u16, cells_str, cells_ms, cells_ss] using h⟩
    obtain ⟨y2, z2⟩ : ∃ y, DataW.trod enc Tryz.prog W 0 sp hd n 5 [c2] = some y := by
      have h := hg 2 _ rfl
      rw [List.getElem?_eq_getElem (show 2 < ys.length by omega)] at h
      exact ⟨_, by simpa [Value.cells, cells_u8, cells_bool, cells_u16, cells_str, cells_ms, cells_ss] using h⟩
    obtain ⟨y3, z3⟩ : ∃ y, DataW.trod enc Tryz.prog W 0 sp hd n 4 [c3] = some y := by
      have h := hg 3 _ rfl
      rw [List.getElem?_eq_getElem (show 3 < ys.length by omega)] at h
      exact ⟨_, by simpa [Value.cells, cells_u8, cells_bool, cells_u16, cells_str, cells_ms, cells_ss] using h⟩
    obtain ⟨y4, z4⟩ : ∃ y, DataW.trod enc Tryz.prog W 0 sp hd n 31 [c4] = some y := by
      have h := hg 4 _ rfl
      rw [List.getElem?_eq_getElem (show 4 < ys.length by omega)] at h
      exact ⟨_, by simpa [Value.cells, cells_u8, cells_bool, cells_u16, cells_str, cells_ms, cells_ss] using h⟩
    obtain ⟨y5, z5⟩ : ∃ y, DataW.trod enc Tryz.prog W 0 sp hd n 9 [c5] = some y := by
      have h := hg 5 _ rfl
      rw [List.getElem?_eq_getElem (show 5 < ys.length by omega)] at h
      exact ⟨_, by simpa [Value.cells, cells_u8, cells_bool, cells_u16, cells_str, cells_ms, cells_ss] using h⟩
    obtain ⟨y6, z6⟩ : ∃ y, DataW.trod enc Tryz.prog W 0 sp hd n 9 [c6] = some y := by
      have h := hg 6 _ rfl
      rw [List.getElem?_eq_getElem (show 6 < ys.length by omega)] at h
      exact ⟨_, by simpa [Value.cells, cells_u8, cells_bool, cells_u16, cells_str, cells_ms, cells_ss] using h⟩
    obtain ⟨y7, z7⟩ : ∃ y, DataW.trod enc Tryz.prog W 0 sp hd n 5 [c7] = some y := by
      have h := hg 7 _ rfl
      rw [List.getElem?_eq_getElem (show 7 < ys.length by omega)] at h
      exact ⟨_, by simpa [Value.cells, cells_u8, cells_bool, cells_u16, cells_str, cells_ms, cells_ss] using h⟩
    obtain ⟨y8, z8⟩ : ∃ y, DataW.trod enc Tryz.prog W 0 sp hd n 4 [c8] = some y := by
      have h := hg 8 _ rfl
      rw [List.getElem?_eq_getElem (show 8 < ys.length by omega)] at h
      exact ⟨_, by simpa [Value.cells, cells_u8, cells_bool, cells_u16, cells_str, cells_ms, cells_ss] using h⟩
    obtain ⟨y9, z9⟩ : ∃ y, DataW.trod enc Tryz.prog W 0 sp hd n 31 [c9] = some y := by
      have h := hg 9 _ rfl
      rw [List.getElem?_eq_getElem (show 9 < ys.length by omega)] at h
      exact ⟨_, by simpa [Value.cells, cells_u8, cells_bool, cells_u16, cells_str, cells_ms, cells_ss] using h⟩
    obtain ⟨y10, z10⟩ : ∃ y, DataW.trod enc Tryz.prog W 0 sp hd n 9 [c10] = some y := by
      have h := hg 10 _ rfl
      rw [List.getElem?_eq_getElem (show 10 < ys.length by omega)] at h
      exact ⟨_, by simpa [Value.cells, cells_u8, cells_bool, cells_u16, cells_str, cells_ms, cells_ss] using h⟩
    obtain ⟨y11, z11⟩ : ∃ y, DataW.trod enc Tryz.prog W 0 sp hd n 4 [c11] = some y := by
      have h := hg 11 _ rfl
      rw [List.getElem?_eq_getElem (show 11 < ys.length by omega)] at h
      exact ⟨_, by simpa [Value.cells, cells_u8, cells_bool, cells_u16, cells_str, cells_ms, cells_ss] using h⟩
    obtain ⟨y12, z12⟩ : ∃ y, DataW.trod enc Tryz.prog W 0 sp hd n 33 [c12, c13, c14, c15] = some y := by
      have h := hg 12 _ rfl
      rw [List.getElem?_eq_getElem (show 12 < ys.length by omega)] at h
      exact ⟨_, by simpa [Value.cells, cells_u8, cells_bool, cells_u16, cells_str, cells_ms, cells_ss] using h⟩
    obtain ⟨y13, z13⟩ : ∃ y, DataW.trod enc Tryz.prog W 0 sp hd n 4 [c16] = some y := by
      have h := hg 13 _ rfl
      rw [List.getElem?_eq_getElem (show 13 < ys.length by omega)] at h
      exact ⟨_, by simpa [Value.cells, cells_u8, cells_bool, cells_u16, cells_str, cells_ms, cells_ss] using h⟩
    obtain ⟨y14, z14⟩ : ∃ y, DataW.trod enc Tryz.prog W 0 sp hd n 4 [c17] = some y := by
      have h := hg 14 _ rfl
      rw [List.getElem?_eq_getElem (show 14 < ys.length by omega)] at h
      exact ⟨_, by simpa [Value.cells, cells_u8, cells_bool, cells_u16, cells_str, cells_ms, cells_ss] using h⟩
    obtain ⟨y15, z15⟩ : ∃ y, DataW.trod enc Tryz.prog W 0 sp hd n 9 [c18] = some y := by
      have h := hg 15 _ rfl
      rw [List.getElem?_eq_getElem (show 15 < ys.length by omega)] at h
      exact ⟨_, by simpa [Value.cells, cells_u8, cells_bool, cells_u16, cells_str, cells_ms, cells_ss] using h⟩
    obtain ⟨y16, z16⟩ : ∃ y, DataW.trod enc Tryz.prog W 0 sp hd n 9 [c19] = some y := by
      have h := hg 16 _ rfl
      rw [List.getElem?_eq_getElem (show 16 < ys.length by omega)] at h
      exact ⟨_, by simpa [Value.cells, cells_u8, cells_bool, cells_u16, cells_str, cells_ms, cells_ss] using h⟩
    obtain ⟨y17, z17⟩ : ∃ y, DataW.trod enc Tryz.prog W 0 sp hd n 4 [c20] = some y := by
      have h := hg 17 _ rfl
      rw [List.getElem?_eq_getElem (show 17 < ys.length by omega)] at h
      exact ⟨_, by simpa [Value.cells, cells_u8, cells_bool, cells_u16, cells_str, cells_ms, cells_ss] using h⟩
    obtain ⟨y18, z18⟩ : ∃ y, DataW.trod enc Tryz.prog W 0 sp hd n 5 [c21] = some y := by
      have h := hg 18 _ rfl
      rw [List.getElem?_eq_getElem (show 18 < ys.length by omega)] at h
      exact ⟨_, by simpa [Value.cells, cells_u8, cells_bool, cells_u16, cells_str, cells_ms, cells_ss] using h⟩
    obtain ⟨y19, z19⟩ : ∃ y, DataW.trod enc Tryz.prog W 0 sp hd n 34 [c22] = some y := by
      have h := hg 19 _ rfl
      rw [List.getElem?_eq_getElem (show 19 < ys.length by omega)] at h
      exact ⟨_, by simpa [Value.cells, cells_u8, cells_bool, cells_u16, cells_str, cells_ms, cells_ss] using h⟩
    obtain ⟨y20, z20⟩ : ∃ y, DataW.trod enc Tryz.prog W 0 sp hd n 9 [c23] = some y := by
      have h := hg 20 _ rfl
      rw [List.getElem?_eq_getElem (show 20 < ys.length by omega)] at h
      exact ⟨_, by simpa [Value.cells, cells_u8, cells_bool, cells_u16, cells_str, cells_ms, cells_ss] using h⟩
    obtain ⟨ms, n2, _, _, _, hmlen, hmg⟩ := DataW.trod_struct Tryz.underlying33 z12
    obtain ⟨m0, zm0⟩ : ∃ y, DataW.trod enc Tryz.prog W 0 sp hd n2 9 [c12] = some y := by
      have h := hmg 0 _ rfl
      have hl : ms.length = 4 := hmlen
      rw [List.getElem?_eq_getElem (show 0 < ms.length by omega)] at h
      exact ⟨_, by simpa [Value.cells, cells_u8, cells_bool, cells_u16, cells_str, cells_ms, cells_ss] using h⟩
    obtain ⟨m1, zm1⟩ : ∃ y, DataW.trod enc Tryz.prog W 0 sp hd n2 9 [c13] = some y := by
      have h := hmg 1 _ rfl
      have hl : ms.length = 4 := hmlen
      rw [List.getElem?_eq_getElem (show 1 < ms.length by omega)] at h
      exact ⟨_, by simpa [Value.cells, cells_u8, cells_bool, cells_u16, cells_str, cells_ms, cells_ss] using h⟩
    obtain ⟨m2, zm2⟩ : ∃ y, DataW.trod enc Tryz.prog W 0 sp hd n2 5 [c14] = some y := by
      have h := hmg 2 _ rfl
      have hl : ms.length = 4 := hmlen
      rw [List.getElem?_eq_getElem (show 2 < ms.length by omega)] at h
      exact ⟨_, by simpa [Value.cells, cells_u8, cells_bool, cells_u16, cells_str, cells_ms, cells_ss] using h⟩
    obtain ⟨m3, zm3⟩ : ∃ y, DataW.trod enc Tryz.prog W 0 sp hd n2 4 [c15] = some y := by
      have h := hmg 3 _ rfl
      have hl : ms.length = 4 := hmlen
      rw [List.getElem?_eq_getElem (show 3 < ms.length by omega)] at h
      exact ⟨_, by simpa [Value.cells, cells_u8, cells_bool, cells_u16, cells_str, cells_ms, cells_ss] using h⟩
    obtain ⟨v_ty, e_v_ty, _, w_v_ty⟩ := DataW.trod_int Tryz.underlying5 z0
    obtain ⟨v_dup, e_v_dup, _⟩ := DataW.trod_bool Tryz.underlying4 z1
    obtain ⟨v_qos, e_v_qos, _, w_v_qos⟩ := DataW.trod_int Tryz.underlying5 z2
    obtain ⟨v_ret, e_v_ret, _⟩ := DataW.trod_bool Tryz.underlying4 z3
    obtain ⟨v_id, e_v_id, _, w_v_id⟩ := DataW.trod_int Tryz.underlying31 z4
    obtain ⟨v_topic0, e_v_topic, _, w_v_topic⟩ := DataW.trod_string Tryz.underlying9 z5
    obtain ⟨v_topic, rfl, l_v_topic⟩ := str_of v_topic0
    obtain ⟨v_load0, e_v_load, _, w_v_load⟩ := DataW.trod_string Tryz.underlying9 z6
    obtain ⟨v_load, rfl, l_v_load⟩ := str_of v_load0
    obtain ⟨v_level, e_v_level, _, w_v_level⟩ := DataW.trod_int Tryz.underlying5 z7
    obtain ⟨v_clean, e_v_clean, _⟩ := DataW.trod_bool Tryz.underlying4 z8
    obtain ⟨v_keep, e_v_keep, _, w_v_keep⟩ := DataW.trod_int Tryz.underlying31 z9
    obtain ⟨v_client0, e_v_client, _, w_v_client⟩ := DataW.trod_string Tryz.underlying9 z10
    obtain ⟨v_client, rfl, l_v_client⟩ := str_of v_client0
    obtain ⟨v_hasWill, e_v_hasWill, _⟩ := DataW.trod_bool Tryz.underlying4 z11
    obtain ⟨v_wt0, e_v_wt, _, w_v_wt⟩ := DataW.trod_string Tryz.underlying9 zm0
    obtain ⟨v_wt, rfl, l_v_wt⟩ := str_of v_wt0
    obtain ⟨v_wl0, e_v_wl, _, w_v_wl⟩ := DataW.trod_string Tryz.underlying9 zm1
    obtain ⟨v_wl, rfl, l_v_wl⟩ := str_of v_wl0
    obtain ⟨v_wq, e_v_wq, _, w_v_wq⟩ := DataW.trod_int Tryz.underlying5 zm2
    obtain ⟨v_wr, e_v_wr, _⟩ := DataW.trod_bool Tryz.underlying4 zm3
    obtain ⟨v_hasUser, e_v_hasUser, _⟩ := DataW.trod_bool Tryz.underlying4 z13
    obtain ⟨v_hasPass, e_v_hasPass, _⟩ := DataW.trod_bool Tryz.underlying4 z14
    obtain ⟨v_user0, e_v_user, _, w_v_user⟩ := DataW.trod_string Tryz.underlying9 z15
    obtain ⟨v_user, rfl, l_v_user⟩ := str_of v_user0
    obtain ⟨v_pass0, e_v_pass, _, w_v_pass⟩ := DataW.trod_string Tryz.underlying9 z16
    obtain ⟨v_pass, rfl, l_v_pass⟩ := str_of v_pass0
    obtain ⟨v_present, e_v_present, _⟩ := DataW.trod_bool Tryz.underlying4 z17
    obtain ⟨v_code, e_v_code, _, w_v_code⟩ := DataW.trod_int Tryz.underlying5 z18
    obtain ⟨A, sn, sc, xs, e_S, hS, hSc, hSn, hSb⟩ := open_cellSubs z19
    obtain ⟨v_codes0, e_v_codes, _, w_v_codes⟩ := DataW.trod_string Tryz.underlying9 z20
    obtain ⟨v_codes, rfl, l_v_codes⟩ := str_of v_codes0
    obtain rfl := (List.cons.inj e_v_ty).1
    obtain rfl := (List.cons.inj e_v_dup).1
    obtain rfl := (List.cons.inj e_v_qos).1
    obtain rfl := (List.cons.inj e_v_ret).1
    obtain rfl := (List.cons.inj e_v_id).1
    obtain rfl := (List.cons.inj e_v_topic).1
    obtain rfl := (List.cons.inj e_v_load).1
    obtain rfl := (List.cons.inj e_v_level).1
    obtain rfl := (List.cons.inj e_v_clean).1
    obtain rfl := (List.cons.inj e_v_keep).1
    obtain rfl := (List.cons.inj e_v_client).1
    obtain rfl := (List.cons.inj e_v_hasWill).1
    obtain rfl := (List.cons.inj e_v_wt).1
    obtain rfl := (List.cons.inj e_v_wl).1
    obtain rfl := (List.cons.inj e_v_wq).1
    obtain rfl := (List.cons.inj e_v_wr).1
    obtain rfl := (List.cons.inj e_v_hasUser).1
    obtain rfl := (List.cons.inj e_v_hasPass).1
    obtain rfl := (List.cons.inj e_v_user).1
    obtain rfl := (List.cons.inj e_v_pass).1
    obtain rfl := (List.cons.inj e_v_present).1
    obtain rfl := (List.cons.inj e_v_code).1
    obtain rfl := (List.cons.inj e_S).1
    obtain rfl := (List.cons.inj e_v_codes).1
    have hxs := hS.len
    refine ⟨⟨v_ty, v_dup, v_qos, v_ret, v_id, v_topic, v_load, v_level, v_clean, v_keep, v_client, v_hasWill, v_wt, v_wl, v_wq, v_wr, v_hasUser, v_hasPass, v_user, v_pass, v_present, v_code, v_codes⟩, A, sn, sc, xs, rfl, hS, hSc, ⟨u8_bd _ w_v_ty, u8_bd _ w_v_qos, u16_bd _ w_v_id, u8_bd _ w_v_level, u16_bd _ w_v_keep, u8_bd _ w_v_wq, u8_bd _ w_v_code, ?_, by omega, hSb⟩⟩
    unfold maxLen at *
    refine ⟨?_, ?_, ?_, ?_, ?_, ?_, ?_, ?_⟩ <;> dsimp only <;> omega
theorem open_Pk {W : World} {base : Nat} {v : Value} {d : DataW H} {ps : List MemPlace} {sp : Nat → Bool} {hd : Bool}
    (hok : Value.okWide Tryz.prog W .any base 36 v) (h : DataW.Trod enc Tryz.prog W 0 sp hd 36 v d ps) : ∃ p A n c xs, v = .agg (PkC p A n c) ∧ Subs W A n xs ∧ (A = none → c = 0) ∧ Came p xs := by
  obtain ⟨cs, rfl, hsz⟩ := okWide_struct Tryz.underlying36 hok
  obtain ⟨fuel, hf⟩ := h
  have h24 : cs.toList.length = 24 := by rw [Array.length_toList]; exact hsz.trans (show Tryz.prog.cellsOf 36 = 24 by kernel_rfl)
  obtain ⟨p, A, n, c, xs, hcs, h1, h2, h3⟩ := trod_Pk h24 hf
  exact ⟨p, A, n, c, xs, by rw [← Array.toArray_toList (xs := cs), hcs, Array.toArray_toList], h1, h2, h3⟩
end
end Go.Proofs.YtncgkkhpcgdcaaaGreatDoor
