/-
  PkW, WrOwn, WrAll in one. (By tools/merge.py.)
-/
import Derived.Test.YtphdooaihbmnlaaGreatDoorPkI
import Derived.Test.YtphdooaihbmnlaaGreatDoorWrD
import Derived.Test.YtphdooaihbmnlaaGreatDoorWrLaw
import Derived.Test.YtphdooaihbmnlaaGreatDoorWrOpen
import Derived.Test.YtphdooaihbmnlaaGreatDoorWrEncM
import Derived.Test.YtphdooaihbmnlaaGreatDoorPkV
set_option linter.unusedSimpArgs false
set_option linter.unusedVariables false
/-
  The document's own Copy.
-/
namespace Go.Proofs.YtphdooaihbmnlaaGreatDoor
open Go.RowKit
/-- The call's own row of subs, from the block B on. -/
def NewRow (w : World) (B : Nat) (A : Option Addr) (n c : Nat) (xs : List (List UInt8 × Int)) : Prop := w.ownsRow B 42 2 (.slice A n c) n (flatS xs)
theorem NewRow.set {w : World} {B n c k : Nat} {A : Option Addr} {xs : List (List UInt8 × Int)} (h : NewRow w B A n c xs) (hk : k < B) (cs : Array Value) : NewRow (w.setRow k cs) B A n c xs := by
  refine ⟨h.1, ?_⟩
  rcases h.2 with hn | ⟨g, cap, cur, e, hb, hg, rest⟩
  · exact .inl hn
  · exact .inr ⟨g, cap, cur, e, hb, (setRow_other w k g cs (by omega)).trans hg, rest⟩
theorem NewRow.base {w : World} {B B' n c : Nat} {A : Option Addr} {xs : List (List UInt8 × Int)} (h : NewRow w B A n c xs) (hB : B' ≤ B) : NewRow w B' A n c xs := by
  refine ⟨h.1, ?_⟩
  rcases h.2 with hn | ⟨g, cap, cur, e, hb, rest⟩
  · exact .inl hn
  · exact .inr ⟨g, cap, cur, e, Nat.le_trans hB hb, rest⟩
theorem NewRow.subs {w : World} {B n c : Nat} {A : Option Addr} {xs : List (List UInt8 × Int)} (h : NewRow w B A n c xs) : Subs w A n xs ∧ (A = none → c = 0) ∧ (∀ b o, A = some ⟨b, o, none⟩ → B ≤ b) := by
  have hn : xs.length = n := by have := h.1; rw [flatS_len] at this; omega
  subst hn
  obtain ⟨A', c', e, h1, h2, h3⟩ := subs_of_own h
  cases e
  exact ⟨h1, h2, h3⟩
/-- Where the row lies, if there is one. -/
theorem NewRow.blk {w : World} {B n c : Nat} {A : Option Addr} {xs : List (List UInt8 × Int)} (h : NewRow w B A n c xs) : (A = none ∧ n = 0) ∨ ∃ g cur, A = some ⟨g, 0, none⟩ ∧ B ≤ g ∧ w.heap[g]? = some (.cells cur 42 (0, 0)) ∧ n * 2 ≤ cur.size := by
  rcases h.2 with ⟨e, hn⟩ | ⟨g, cap, cur, e, hb, hg, h1, h2, h3, h4⟩
  · cases e; exact .inl ⟨rfl, rfl⟩
  · cases e; exact .inr ⟨g, cur, rfl, hb, hg, by omega⟩
theorem refCopy_any (p : Pk) (A : Option Addr) (n c : Nat) (xs : List (List UInt8 × Int)) (w : World) (hx : Subs w A n xs) (hc : A = none → c = 0) (hn : n ≤ 1000) :
    Calls Tryz.prog 11 #[.agg (PkC p A n c)] w fun e w' => ∃ A' c', e = .returned (.agg (PkC p A' n c')) ∧ Below w.heap.size w w' ∧ NewRow w' w.heap.size A' n c' xs := by
  have hK0 := (((Kp.nil w).new (PkC p A n c) 27).new (PkC zPk none 0 0) 27).swap
  simp only [World.size_alloc] at hK0
  obtain rfl := hx.len
  have HX := Lib.hid hx
  have HC := Lib.hid hc
  clear hx hc
  have hb2 : Below w.heap.size w ((w.alloc (.cells (PkC p A xs.length c) 27)).alloc (.cells (PkC zPk none 0 0) 27)) := ((Below.refl _ _).alloc (Nat.le_refl _) _).alloc (by simp) _
  go_enter Tryz.func11, Tryz.ntmps11
  go_wp2_with (at_builtin; refine wpList_sapp rfl _ _ rfl rfl (OwnS.nil (Below.refl _ _) (Nat.le_refl _)) A xs.length c xs rfl (HX.out.below hb2) HC.out (by simp; omega) ?_; intro v1 w1 hown hgr; have hP := hK0.more (grown_below hgr rfl); clear hgr; obtain ⟨A', c', rfl, hS, hc', hlo⟩ := subs_of_own hown.1; rw [List.nil_append] at hS hown ⊢; have HOWN : Hid (NewRow w1 (w.heap.size + 2) A' xs.length c' xs) := (by have hq := hown.1; simp only [World.size_alloc] at hq; exact hq); clear hown hS hc' hK0 hlo; have p1r := hP.row; have p1f := hP.free; have p1c := hP.cell; have p1z := hP.froz; have p1l := hP.lt; have p2r := hP.tail.row; have p2f := hP.tail.free; have p2c := hP.tail.cell; have p2z := hP.tail.froz; have p2l := hP.tail.lt; have hbp := hP.below)
  refine ret_pk 2 _ p A' xs.length c' rfl rfl (by go_simp) rfl ⟨A', c', rfl, ?_, ?_⟩
  · repeat (first | exact hbp | refine below_setRow ?_ (by omega) _)
  · exact ((HOWN.out.set (by omega) _).set (by omega) _).base (by omega)
end Go.Proofs.YtphdooaihbmnlaaGreatDoor

/-
  The call's own row of packets.
-/
namespace Go.Proofs.YtphdooaihbmnlaaGreatDoor
open Go.RowKit
set_option maxRecDepth 100000
/-- A block of Subs that the own row is none of: it lies ahead of the call, or it holds Subs. -/
def SpB (w : World) (B b : Nat) : Prop := b < B ∨ ∃ cur, w.heap[b]? = some (.cells cur 42 (0, 0))
/-- Cells that read as packets. -/
def RdP (w : World) (B : Nat) (L : List Value) (ps : List PX) : Prop :=
  L.length = ps.length * 24 ∧ ∀ j x, ps[j]? = some x → ∃ A' n' c', (L.drop (j * 24)).take 24 = (PkC x.1 A' n' c').toList ∧ Subs w A' n' x.2 ∧ (A' = none → c' = 0) ∧ (0 < n' → ∀ b o, A' = some ⟨b, o, none⟩ → SpB w B b)
theorem PkC_onec (p : Pk) (A : Option Addr) (n c : Nat) : ∀ u ∈ (PkC p A n c).toList, u.oneCell' = true := by
  intro u hu
  simp only [PkC, List.mem_cons, List.mem_nil_iff, or_false] at hu
  rcases hu with rfl | rfl | rfl | rfl | rfl | rfl | rfl | rfl | rfl | rfl | rfl | rfl | rfl | rfl | rfl | rfl | rfl | rfl | rfl | rfl | rfl | rfl | rfl | rfl <;> rfl
theorem Subs.keep {w w' : World} {A : Option Addr} {n : Nat} {xs : List (List UInt8 × Int)} (h : Subs w A n xs) (hs : w.heap.size ≤ w'.heap.size) (hk : 0 < n → ∀ b o, A = some ⟨b, o, none⟩ → b < w.heap.size → w'.heap[b]? = w.heap[b]?) : Subs w' A n xs :=
  ⟨h.1, fun hn => by
    obtain ⟨b, off, e, hlt, hc⟩ := h.2 hn
    have hr : rowAt w' b = rowAt w b := by unfold rowAt; rw [hk hn b off e hlt]
    exact ⟨b, off, e, by omega, fun j x hx => by rw [hr]; exact hc j x hx⟩⟩
section
variable {w w' : World} {B : Nat} {L M : List Value} {ps qs : List PX}
theorem RdP.nil : RdP w B [] [] := ⟨rfl, fun j x hx => by simp at hx⟩
theorem RdP.keep (h : RdP w B L ps) (hs : w.heap.size ≤ w'.heap.size) (hk : ∀ b, b < w.heap.size → SpB w B b → w'.heap[b]? = w.heap[b]?) : RdP w' B L ps :=
  ⟨h.1, fun j x hx => by
    obtain ⟨A', n', c', h1, h2, h3, h4⟩ := h.2 j x hx
    refine ⟨A', n', c', h1, h2.keep hs (fun hn b o e hlt => hk b hlt (h4 hn b o e)), h3, fun hn b o e => ?_⟩
    have h5 := h4 hn b o e
    rcases h5 with h6 | ⟨cur, h6⟩
    · exact Or.inl h6
    · exact Or.inr ⟨cur, (hk b (Array.getElem?_eq_some_iff.1 h6).1 (Or.inr ⟨cur, h6⟩)).trans h6⟩⟩
theorem RdP.below (h : RdP w B L ps) (hb : Below w.heap.size w w') : RdP w' B L ps := h.keep hb.size (fun b hlt _ => hb.block b hlt)
theorem RdP.app (h : RdP w B L ps) (k : RdP w B M qs) : RdP w B (L ++ M) (ps ++ qs) := by
  refine ⟨by rw [List.length_append, List.length_append, h.1, k.1]; omega, fun j x hx => ?_⟩
  by_cases hj : j < ps.length
  · rw [List.getElem?_append_left hj] at hx
    obtain ⟨A', n', c', h1, h2⟩ := h.2 j x hx
    refine ⟨A', n', c', ?_, h2⟩
    rw [List.drop_append_of_le_length (by rw [h.1]; omega), List.take_append_of_le_length (by rw [List.length_drop, h.1]; omega), h1]
  · rw [List.getElem?_append_right (by omega)] at hx
    obtain ⟨A', n', c', h1, h2⟩ := k.2 _ x hx
    refine ⟨A', n', c', ?_, h2⟩
    rw [List.drop_append, List.drop_eq_nil_of_le (by rw [h.1]; omega), List.nil_append, h.1, ← Nat.sub_mul, h1]
theorem RdP.ones (h : RdP w B L ps) : ∀ u ∈ L, u.oneCell' = true := by
  intro u hu
  obtain ⟨i, hi, rfl⟩ := List.mem_iff_getElem.1 hu
  have hl := h.1
  have hk : i / 24 < ps.length := by omega
  obtain ⟨A', n', c', h1, _⟩ := h.2 (i / 24) ps[i / 24] (List.getElem?_eq_getElem hk)
  refine PkC_onec ps[i / 24].1 A' n' c' _ ?_
  rw [← h1]
  refine List.mem_iff_getElem?.2 ⟨i % 24, ?_⟩
  rw [List.getElem?_take_of_lt (by omega), List.getElem?_drop, show i / 24 * 24 + i % 24 = i by omega]
  exact List.getElem?_eq_getElem hi
/-- A slice whose cells read as packets. -/
def RdS (w : World) (B : Nat) (A : Option Addr) (n : Nat) (ps : List PX) : Prop :=
  ps.length = n ∧ (0 < n → ∃ b off L, A = some ⟨b, off, none⟩ ∧ RdP w B L ps ∧ ∀ j u, L[j]? = some u → w.cell? ⟨b, off + j, none⟩ = some u)
theorem Pks.rd {w0 : World} {A : Option Addr} {n : Nat} (h : Pks w0 A n ps) (hb : Below w0.heap.size w0 w) : RdS w w0.heap.size A n ps := by
  obtain ⟨rfl, h⟩ := h
  refine ⟨rfl, fun hn => ?_⟩
  obtain ⟨b, off, e, hlt, hc⟩ := h hn
  have hsz : off + ps.length * 24 ≤ (rowAt w0 b).size := by
    have := (hc (ps.length - 1) ps[ps.length - 1] (List.getElem?_eq_getElem (by omega))).1
    omega
  refine ⟨b, off, ((rowAt w0 b).extract off (off + ps.length * 24)).toList, e, ⟨by simp; omega, fun j x hx => ?_⟩, fun j u hu => ?_⟩
  · obtain ⟨h1, A', n', c', h2, h3, h4⟩ := hc j x hx
    have hj : j < ps.length := (List.getElem?_eq_some_iff.1 hx).1
    refine ⟨A', n', c', ?_, h3.below hb, h4, fun hn b' o' e' => Or.inl ?_⟩
    · rw [← h2]
      simp only [Array.toList_extract, List.extract_eq_take_drop, List.drop_take, List.take_take, List.drop_drop]
      congr 1
      omega
    · obtain ⟨b2, o2, e2, h5, _⟩ := h3.2 hn
      rw [e'] at e2
      cases e2
      exact h5
  · have hj : j < ps.length * 24 := by
      have := (List.getElem?_eq_some_iff.1 hu).1
      simp at this
      omega
    rw [rowAt_cell (by rw [rowAt_below hb hlt]; omega), rowAt_below hb hlt, ← hu, Array.getElem?_toList, Array.getElem?_extract, if_pos (by omega)]
end
/-- The call's own row of packets. -/
def OwnP (B : Nat) (w0 wr : World) (v : Value) (ps : List PX) : Prop :=
  ∃ L, wr.ownsRow B 27 24 v ps.length L ∧ RdP wr B L ps ∧ Below B w0 wr ∧ B ≤ wr.heap.size
section
variable {B : Nat} {w0 wr w' : World} {v : Value} {ps : List PX}
theorem OwnP.nil (h : Below B w0 wr) (hB : B ≤ wr.heap.size) : OwnP B w0 wr (.slice none 0 0) [] := ⟨[], World.ownsRow_nil _ _ _ _, RdP.nil, h, hB⟩
theorem OwnP.more (h : OwnP B w0 wr v ps) (hb : Below wr.heap.size wr w') : OwnP B w0 w' v ps := by
  obtain ⟨L, h1, h2, h3, h4⟩ := h
  exact ⟨L, own_below h1 hb, h2.below hb, h3.trans (hb.mono h4), Nat.le_trans h4 hb.size⟩
theorem OwnP.below (h : OwnP B w0 wr v ps) : Below B w0 wr := by obtain ⟨L, h1, h2, h3, h4⟩ := h; exact h3
theorem OwnP.alloc (h : OwnP B w0 wr v ps) (o : Obj) : OwnP B w0 (wr.alloc o) v ps := h.more ((Below.refl _ _).alloc (Nat.le_refl _) o)
theorem OwnP.pks (h : OwnP B w0 wr v ps) : ∃ A c, v = .slice A ps.length c ∧ Pks wr A ps.length ps ∧ (A = none → c = 0) := by
  obtain ⟨L, h1, h2, _⟩ := h
  rcases h1.2 with ⟨rfl, hn⟩ | ⟨g, cap, cur, rfl, hB, hh, hc, _, hsz, ht⟩
  · exact ⟨none, 0, by rw [hn], ⟨rfl, fun h => by omega⟩, fun _ => rfl⟩
  · refine ⟨some ⟨g, 0, none⟩, cap, rfl, ⟨rfl, fun _ => ⟨g, 0, rfl, (Array.getElem?_eq_some_iff.1 hh).1, fun j x hx => ?_⟩⟩, fun e => (by cases e)⟩
    have hj : j < ps.length := (List.getElem?_eq_some_iff.1 hx).1
    rw [rowAt_blk hh]
    refine ⟨by omega, ?_⟩
    obtain ⟨A', n', c', h3, h4, h5, _⟩ := h2.2 j x hx
    refine ⟨A', n', c', ?_, h4, h5⟩
    rw [← ht, List.drop_take, List.take_take, show min 24 (ps.length * 24 - j * 24) = 24 by omega] at h3
    apply Array.ext'
    rw [← h3, Nat.zero_add, Array.toList_extract, List.extract_eq_take_drop]
    simp
end
theorem own_no {w : World} {B b n : Nat} {v : Value} {L : List Value} (h : w.ownsRow B 27 24 v n L) (hs : SpB w B b) : some b ≠ v.ownBlock := by
  intro e
  rcases h.2 with ⟨rfl, hn⟩ | ⟨g, cap, cur, rfl, hB, hh, _⟩
  · cases e
  · obtain rfl : b = g := by simpa [Value.ownBlock] using e
    rcases hs with h1 | ⟨cur2, h1⟩
    · omega
    · rw [hh] at h1
      injection h1 with h1
      injection h1 with _ h2 _
      revert h2
      decide
theorem pk_info : (Tryz.prog.info? 27).map (fun i => (i.zero.map fun z => z.cells.size, i.size)) = some (some 24, 24) := by kernel_rfl
theorem pk_bytes : (Tryz.prog.info? 27).map (fun i => decide (i.bytes ≤ 1000)) = some true := by kernel_rfl
theorem wpList_papp {ops : Array Oper} {rest : List Oper} {o : Oper} {a : Act} {Q : Exit → Act → World → Prop} {B : Nat} {w0 wr : World} {v : Value} {ps : List PX} (hgd : o.guard = none) (s x : Operand)
    (ho : o.op = .call { callee := .builtin .append, args := #[s, x], argTypes := #[34, 34] })
    (hs : a.eval s = v) (hb : OwnP B w0 wr v ps) (A : Option Addr) (n c : Nat) (qs : List PX) (hx : a.eval x = .slice A n c) (hI : RdS wr B A n qs) (hc0 : A = none → c = 0)
    (hl : ps.length + n ≤ 100000)
    (h : ∀ v' w', OwnP B w0 w' v' (ps ++ qs) → wr.grownBy w' v.ownBlock → wpList Tryz.prog ops Q rest (a.put o.dst v') w') : wpList Tryz.prog ops Q (o :: rest) a wr := by
  obtain ⟨i, hi, hz1⟩ := Option.map_eq_some_iff.1 pk_info
  have hz4 : i.bytes ≤ 1000 := by
    have := pk_bytes
    rw [hi] at this
    simpa using this
  obtain ⟨hz2, hz3⟩ := Prod.mk.inj hz1
  obtain ⟨z, hz, hzs⟩ := Option.map_eq_some_iff.1 hz2
  obtain ⟨L, hown, hrd, hbel, hB⟩ := hb
  obtain ⟨rfl, hI⟩ := hI
  rcases Nat.eq_zero_or_pos qs.length with h0 | h0
  · obtain rfl : qs = [] := List.eq_nil_of_length_eq_zero h0
    rcases A with _ | ad
    · obtain rfl := hc0 rfl
      exact wpList_append_own_none hgd s x _ ho B _ i 24 Tryz.underlying34 hi v ps.length _ hs hown hx (h v wr ⟨L, by simpa using hown, by simpa using hrd, hbel, hB⟩ (World.grownBy.refl wr _))
    · refine wpList_append_own wr hgd s x _ ho B _ i z 24 i.bytes Tryz.underlying34 hi hz hz3 rfl hzs (by decide) v ps.length _ hs hown ad 0 c [] hx rfl (fun j u hu => by simp at hu) (fun u hu => by cases hu) (by unfold maxLen; omega) (by simp only [List.length_nil] at hl; exact Nat.le_trans (Nat.mul_le_mul (show ps.length + 0 ≤ 100000 by omega) hz4) (by decide)) hB ?_
      intro v' w' hown' hgr _
      refine h v' w' ⟨L, by simpa using hown', ?_, hbel.grown hgr hB (fun k hk => (hown.lt k hk).1), Nat.le_trans hB hgr.size⟩ hgr
      rw [List.append_nil]
      exact hrd.keep hgr.size (fun b hlt hsp => hgr.block b hlt (own_no hown hsp))
  · obtain ⟨b, off, M, rfl, hM, hcell⟩ := hI h0
    refine wpList_append_own wr hgd s x _ ho B _ i z 24 i.bytes Tryz.underlying34 hi hz hz3 rfl hzs (by decide) v ps.length _ hs hown ⟨b, off, none⟩ qs.length c M hx hM.1 ?_ hM.ones (by unfold maxLen; omega) (Nat.le_trans (Nat.mul_le_mul hl hz4) (by decide)) hB ?_
    · intro j u hu
      have hadd : (⟨b, off, none⟩ : Addr).add j = ⟨b, off + j, none⟩ := by unfold Addr.add; split <;> simp_all
      rw [hadd]
      exact hcell j u hu
    · intro v' w' hown' hgr _
      refine h v' w' ⟨L ++ M, by rw [List.length_append]; exact hown', ?_, hbel.grown hgr hB (fun k hk => (hown.lt k hk).1), Nat.le_trans hB hgr.size⟩ hgr
      exact (hrd.app hM).keep hgr.size (fun b hlt hsp => hgr.block b hlt (own_no hown hsp))
end Go.Proofs.YtphdooaihbmnlaaGreatDoor

/-
  WriteAll.
-/
namespace Go.Proofs.YtphdooaihbmnlaaGreatDoor
open Go.RowKit
set_option maxRecDepth 100000
theorem rd_one {w : World} {B g n c : Nat} {p : Pk} {A : Option Addr} {xs : List (List UInt8 × Int)} (h : rowAt w g = PkC p A n c) (hs : Subs w A n xs) (hc : A = none → c = 0) (hsp : 0 < n → ∀ b o, A = some ⟨b, o, none⟩ → SpB w B b) : RdS w B (some ⟨g, 0, none⟩) 1 [(p, xs)] := by
  refine ⟨rfl, fun _ => ⟨g, 0, (PkC p A n c).toList, rfl, ⟨rfl, fun j x hx => ?_⟩, fun j u hu => ?_⟩⟩
  · match j, hx with
    | 0, hx =>
      cases hx
      exact ⟨A, n, c, rfl, hs, hc, hsp⟩
    | j + 1, hx => simp at hx
  · have hj : j < (rowAt w g).size := by
      have := (List.getElem?_eq_some_iff.1 hu).1
      rw [h]
      simpa using this
    rw [Nat.zero_add, rowAt_cell hj, h, ← Array.getElem?_toList]
    exact hu
set_option maxHeartbeats 4000000 in
theorem refSameAll_yes (A B : Option Addr) (n c d : Nat) (ps : List PX) (w : World) (hs : Pks w A n ps) (ks : Pks w B n ps) (hn : n ≤ 50) (hf : ∀ x ∈ ps, Fit x.1 x.2) :
    Calls Tryz.prog 14 #[.slice A n c, .slice B n d] w fun e w' => e = .returned (.bool true) ∧ Below w.heap.size w w' := by
  have hb : Below w.heap.size w w := Below.refl _ _
  have HS := Lib.hid hs
  have KS := Lib.hid ks
  have HF := Lib.hid hf
  clear hs ks hf
  go_enter Tryz.func14, Tryz.ntmps14
  go_wp2_with fail
  go_loopw [5] (fun i wr => ∃ k : Nat, i = .int .i64 k ∧ k ≤ n ∧ Below w.heap.size w wr) (fun i _ => n - (intOf i).toNat)
  case atStart => exact ⟨0, rfl, by omega, hb⟩
  case round =>
    clear hb
    obtain ⟨k, rfl, hk, hb⟩ := hrel
    by_cases hlt : k < n
    · have hlt2 : (k : Int) < (n : Int) := by omega
      have hk0 : (0 : Int) ≤ (k : Int) := by omega
      obtain ⟨bx, ox, x, A1, n1, c1, rfl, hxk, hbx, hrs, hex, hsub, _⟩ := (HS.out.below hb).at_ hlt
      obtain ⟨by_, oy, y, A2, n2, c2, rfl, hyk, hby, hrt, hey, ksub, _⟩ := (KS.out.below hb).at_ hlt
      obtain rfl : x = y := by rw [hxk] at hyk; exact Option.some.inj hyk
      obtain rfl : n1 = n2 := by rw [← hsub.len, ← ksub.len]
      have hnn : n1 ≤ 1000 := by
        have h1 := (HF.out x (List.mem_of_getElem? hxk)).num
        have h2 := hsub.len
        omega
      have HSUB := Lib.hid hsub
      have KSUB := Lib.hid ksub
      have hself : (x.2 == x.2) = true := by simp
      clear hxk hyk hsub ksub
      go_wp2_with fail
      refine wp_region_held_drew (S := fun wz => Below wr.heap.size wr wz) (by kernel_rfl) ((Below.refl _ _).drew) (fun hHeld => ?_)
      refine wpAnyH_take (i := 0) (oi := ({ dst := some 17, op := Go.Op.move (Go.Operand.tmp 0), type := 34, pos := "ref.go:217", after := #[], guard := none } : Oper)) (v := ?vw1) rfl (by kernel_rfl) (by kernel_rfl) (by kernel_rfl) (fun _ _ _ h => h) (Or.inl ⟨by rfl, ?hz1⟩) (by assumption) ?rs1
      case hz1 => (intro wz hSw; (try have hq1 := hSw.tail.cell); (try have hq2 := hSw.tail.tail.cell); (try have hq3 := hSw.cell); (try have hq4 := hSw.tail.row); (try have hq5 := hSw.tail.tail.row); (try have hq6 := hSw.row); (try have hq7 := hSw.tail.tail.tail.row); (try clear hSw); go_simp; all_goals with_reducible rfl)
      try simp only [Act.put, List.setIfInBounds_toArray, List.set_cons_zero, List.set_cons_succ]
      refine wpAnyH_take (i := 1) (oi := ({ dst := some 18, op := Go.Op.move (Go.Operand.tmp 5), type := 3, pos := "ref.go:217", after := #[], guard := none } : Oper)) (v := ?vw2) rfl (by kernel_rfl) (by kernel_rfl) (by kernel_rfl) (fun _ _ _ h => h) (Or.inl ⟨by rfl, ?hz2⟩) (by assumption) ?rs2
      case hz2 => (intro wz hSw; (try have hq1 := hSw.tail.cell); (try have hq2 := hSw.tail.tail.cell); (try have hq3 := hSw.cell); (try have hq4 := hSw.tail.row); (try have hq5 := hSw.tail.tail.row); (try have hq6 := hSw.row); (try have hq7 := hSw.tail.tail.tail.row); (try clear hSw); go_simp; all_goals with_reducible rfl)
      try simp only [Act.put, List.setIfInBounds_toArray, List.set_cons_zero, List.set_cons_succ]
      refine wpAnyH_take (i := 2) (oi := ({ dst := some 19, op := Go.Op.indexAddr 34 (Go.Operand.tmp 17) (Go.Operand.tmp 18), type := 0, pos := "ref.go:217", after := #[{ on := 0, ground := Go.Ground.data }, { on := 1, ground := Go.Ground.data }], guard := none } : Oper)) (v := ?vw3) rfl (by kernel_rfl) (by kernel_rfl) (by kernel_rfl) (fun _ _ _ h => h) (Or.inl ⟨by rfl, ?hz3⟩) (by assumption) ?rs3
      case hz3 => (intro wz hSw; (try have hq1 := hSw.tail.cell); (try have hq2 := hSw.tail.tail.cell); (try have hq3 := hSw.cell); (try have hq4 := hSw.tail.row); (try have hq5 := hSw.tail.tail.row); (try have hq6 := hSw.row); (try have hq7 := hSw.tail.tail.tail.row); (try clear hSw); go_simp; all_goals with_reducible rfl)
      try simp only [Act.put, List.setIfInBounds_toArray, List.set_cons_zero, List.set_cons_succ]
      refine wpAnyH_take (i := 3) (oi := ({ dst := some 20, op := Go.Op.load 27 (Go.Operand.tmp 19), type := 27, pos := "ref.go:217", after := #[{ on := 2, ground := Go.Ground.data }], guard := none } : Oper)) (v := ?vw4) rfl (by kernel_rfl) (by kernel_rfl) (by kernel_rfl) (fun _ _ _ h => h) (Or.inl ⟨by rfl, ?hz4⟩) (by assumption) ?rs4
      case hz4 => (intro wz hSw; have z1 := rowAt_below hSw hbx; (try have hq1 := hSw.tail.cell); (try have hq2 := hSw.tail.tail.cell); (try have hq3 := hSw.cell); (try have hq4 := hSw.tail.row); (try have hq5 := hSw.tail.tail.row); (try have hq6 := hSw.row); (try have hq7 := hSw.tail.tail.tail.row); (try clear hSw); go_simp; all_goals with_reducible rfl)
      try simp only [Act.put, List.setIfInBounds_toArray, List.set_cons_zero, List.set_cons_succ]
      refine wpAnyH_take (i := 4) (oi := ({ dst := some 21, op := Go.Op.move (Go.Operand.tmp 1), type := 34, pos := "ref.go:217", after := #[], guard := none } : Oper)) (v := ?vw5) rfl (by kernel_rfl) (by kernel_rfl) (by kernel_rfl) (fun _ _ _ h => h) (Or.inl ⟨by rfl, ?hz5⟩) (by assumption) ?rs5
      case hz5 => (intro wz hSw; (try have hq1 := hSw.tail.cell); (try have hq2 := hSw.tail.tail.cell); (try have hq3 := hSw.cell); (try have hq4 := hSw.tail.row); (try have hq5 := hSw.tail.tail.row); (try have hq6 := hSw.row); (try have hq7 := hSw.tail.tail.tail.row); (try clear hSw); go_simp; all_goals with_reducible rfl)
      try simp only [Act.put, List.setIfInBounds_toArray, List.set_cons_zero, List.set_cons_succ]
      refine wpAnyH_take (i := 5) (oi := ({ dst := some 22, op := Go.Op.move (Go.Operand.tmp 5), type := 3, pos := "ref.go:217", after := #[], guard := none } : Oper)) (v := ?vw6) rfl (by kernel_rfl) (by kernel_rfl) (by kernel_rfl) (fun _ _ _ h => h) (Or.inl ⟨by rfl, ?hz6⟩) (by assumption) ?rs6
      case hz6 => (intro wz hSw; (try have hq1 := hSw.tail.cell); (try have hq2 := hSw.tail.tail.cell); (try have hq3 := hSw.cell); (try have hq4 := hSw.tail.row); (try have hq5 := hSw.tail.tail.row); (try have hq6 := hSw.row); (try have hq7 := hSw.tail.tail.tail.row); (try clear hSw); go_simp; all_goals with_reducible rfl)
      try simp only [Act.put, List.setIfInBounds_toArray, List.set_cons_zero, List.set_cons_succ]
      refine wpAnyH_take (i := 6) (oi := ({ dst := some 23, op := Go.Op.indexAddr 34 (Go.Operand.tmp 21) (Go.Operand.tmp 22), type := 0, pos := "ref.go:217", after := #[{ on := 4, ground := Go.Ground.data }, { on := 5, ground := Go.Ground.data }], guard := none } : Oper)) (v := ?vw7) rfl (by kernel_rfl) (by kernel_rfl) (by kernel_rfl) (fun _ _ _ h => h) (Or.inl ⟨by rfl, ?hz7⟩) (by assumption) ?rs7
      case hz7 => (intro wz hSw; (try have hq1 := hSw.tail.cell); (try have hq2 := hSw.tail.tail.cell); (try have hq3 := hSw.cell); (try have hq4 := hSw.tail.row); (try have hq5 := hSw.tail.tail.row); (try have hq6 := hSw.row); (try have hq7 := hSw.tail.tail.tail.row); (try clear hSw); go_simp; all_goals with_reducible rfl)
      try simp only [Act.put, List.setIfInBounds_toArray, List.set_cons_zero, List.set_cons_succ]
      refine wpAnyH_take (i := 7) (oi := ({ dst := some 24, op := Go.Op.load 27 (Go.Operand.tmp 23), type := 27, pos := "ref.go:217", after := #[{ on := 6, ground := Go.Ground.data }], guard := none } : Oper)) (v := ?vw8) rfl (by kernel_rfl) (by kernel_rfl) (by kernel_rfl) (fun _ _ _ h => h) (Or.inl ⟨by rfl, ?hz8⟩) (by assumption) ?rs8
      case hz8 => (intro wz hSw; have z1 := rowAt_below hSw hby; (try have hq1 := hSw.tail.cell); (try have hq2 := hSw.tail.tail.cell); (try have hq3 := hSw.cell); (try have hq4 := hSw.tail.row); (try have hq5 := hSw.tail.tail.row); (try have hq6 := hSw.row); (try have hq7 := hSw.tail.tail.tail.row); (try clear hSw); go_simp; all_goals with_reducible rfl)
      try simp only [Act.put, List.setIfInBounds_toArray, List.set_cons_zero, List.set_cons_succ]
      refine wpAnyH_ready (rs := [8]) (by kernel_rfl) (by simp) ?_
      refine (AllReadyH.cons (o := ({ dst := some 25, op := Go.Op.call { callee := Go.Callee.value (Go.Operand.func 27), args := #[Go.Operand.tmp 20, Go.Operand.tmp 24], argTypes := #[27, 27] }, type := 4, pos := "ref.go:217", after := #[{ on := 3, ground := Go.Ground.data }, { on := 7, ground := Go.Ground.data }], guard := none } : Oper)) rfl (fun K hK => ?_) AllReadyH.nil)
      go_simp
      (go_at_call 27; refine (refSame_self x.1 A1 A2 n1 c1 c2 x.2 x.2 _ (HSUB.out.below hHeld) (KSUB.out.below hHeld) hnn).mono ?_; rintro e w6 ⟨rfl, hb6⟩)
      refine hK.out _ _ (by first | exact hHeld.more hb6 | exact hHeld | exact ⟨_, hK9⟩ | exact below_more hHeld hb6) (fun hHeld1 => ?_)
      clear hHeld; have hHeld := hHeld1; clear hHeld1 hK K
      try simp only [Act.put, List.setIfInBounds_toArray, List.set_cons_zero, List.set_cons_succ]
      refine wpAnyH_take (i := 9) (oi := ({ dst := some 26, op := Go.Op.unOp Go.UnOp.not 4 (Go.Operand.tmp 25), type := 4, pos := "ref.go:217", after := #[{ on := 8, ground := Go.Ground.data }], guard := none } : Oper)) (v := ?vw9) rfl (by kernel_rfl) (by kernel_rfl) (by kernel_rfl) (fun _ _ _ h => h) (Or.inl ⟨by rfl, ?hz9⟩) (by assumption) ?rs9
      case hz9 => (intro wz hSw; (try have hq1 := hSw.tail.cell); (try have hq2 := hSw.tail.tail.cell); (try have hq3 := hSw.cell); (try have hq4 := hSw.tail.row); (try have hq5 := hSw.tail.tail.row); (try have hq6 := hSw.row); (try have hq7 := hSw.tail.tail.tail.row); (try clear hSw); go_simp; all_goals with_reducible rfl)
      try simp only [Act.put, List.setIfInBounds_toArray, List.set_cons_zero, List.set_cons_succ]
      refine wpAnyH_done (by kernel_rfl) ?_ _
      replace hb := below_more hb hHeld
      clear hHeld
      go_wp2_with fail
      go_roundw
      case rel => exact ⟨k + 1, by go_num, by omega, hb⟩
      case measure => simp [intOf]; omega
    · have hge : ¬ (k : Int) < (n : Int) := by omega
      go_wp2_with fail
      go_ret
      exact ⟨rfl, hb⟩
namespace lawWriteAll
theorem fit_all {ps : List PX} (hc : ∀ x ∈ ps, Came x.1 x.2) (h : ∀ x ∈ ps, totB x.1 x.2 ≤ 10000 ∧ x.2.length ≤ 100) : ∀ x ∈ ps, Fit x.1 x.2 := fun x hx => fit_came (hc x hx) (h x hx).1 (h x hx).2
set_option maxHeartbeats 8000000 in
theorem walk (w : World) (hG : Glo w) (A : Option Addr) (n c : Nat) (ps : List PX) (hs : Pks w A n ps) (hc : A = none → c = 0) (hn : n ≤ 9223372036854775807) (hp : ∀ x ∈ ps, Came x.1 x.2) :
    Calls Tryz.prog 4 #[.slice A n c] w fun e w' => e = .returned (.bool true) ∧ Below w.heap.size w w' := by
  have hb : Below w.heap.size w w := Below.refl _ _
  obtain rfl := hs.len
  have HG := Lib.hid hG
  have HS := Lib.hid hs
  have HC := Lib.hid hp
  clear hG hs hp hc
  go_enter Tryz.func4, Tryz.ntmps4
  go_wp2_with fail
  refine (greats_any A ps.length c ps _ HS.out HC.out hn).mono ?_
  rintro e w1 ⟨g, rfl, hgr, hb1⟩
  replace hb := below_more hb hb1
  clear hb1
  cases g with
  | true =>
    clear hgr
    go_wp2_with fail
    refine (awake_any _ (HG.out.below hb)).mono ?_
    rintro e w2 ⟨rfl, hb2⟩
    go_wp2_with fail
    go_ret
    exact ⟨rfl, below_more hb hb2⟩
  | false =>
    obtain ⟨hn2, hsm⟩ := hgr rfl
    have HF := Lib.hid (fit_all HC.out hsm)
    clear hgr hsm
    have hO := OwnP.nil hb hb.size
    clear hb
    go_wp2_with fail
    go_loopw [3, 4] (fun v i wr => ∃ k : Nat, i = .int .i64 k ∧ k ≤ ps.length ∧ OwnP w.heap.size w wr v (ps.take k)) (fun _ i _ => ps.length - (intOf i).toNat)
    case atStart => exact ⟨0, rfl, by omega, by simpa using hO⟩
    case round =>
      clear hO
      obtain ⟨k, rfl, hk, hO⟩ := hrel
      have hlk : (ps.take k).length = k := by rw [List.length_take]; omega
      have hb := hO.below
      by_cases hlt : k < ps.length
      · have hlt2 : (k : Int) < (ps.length : Int) := by omega
        obtain ⟨bx, off, x, A', n', c', rfl, hxk, hbx, hrs, hex, hsub, hc'⟩ := (HS.out.below hb).at_ hlt
        have hnn : n' ≤ 1000 := by
          have h1 := (HF.out x (List.mem_of_getElem? hxk)).num
          have h2 := hsub.len
          omega
        have HSUB := Lib.hid hsub
        have HCP := Lib.hid hc'
        have HTK : Hid (ps.take (k + 1) = ps.take k ++ [x]) := by show _ = _; rw [List.take_add_one, hxk]; rfl
        have HO := Lib.hid hO
        clear hxk hsub hc' hO hb
        go_wp2_with fail
        refine (refCopy_any x.1 A' n' c' x.2 _ HSUB.out HCP.out hnn).mono ?_
        rintro e w6 ⟨A2, c2, rfl, hb6, hN⟩
        have hO2 := HO.out.more hb6
        have hsz := Nat.le_trans HO.out.below.size hb6.size
        obtain ⟨hN1, hN2, hN3⟩ := hN.subs
        have hNB := hN.blk
        clear hb6 hN HO hrs hex hbx
        have HSP : ∀ ob : Obj, 0 < n' → ∀ b o, A2 = some ⟨b, o, none⟩ → SpB (w6.alloc ob) w.heap.size b := by
          intro ob hn b o e
          rcases hNB with ⟨_, h0⟩ | ⟨g, cur, hA, hB, hh, _⟩
          · omega
          · rw [hA] at e
            cases e
            exact Or.inr ⟨cur, (Below.heap_alloc w6 _ _ (Array.getElem?_eq_some_iff.1 hh).1).trans hh⟩
        have HSPH := Lib.hid HSP
        have HN1 := Lib.hid hN1
        have HN2 := Lib.hid hN2
        have HO2 := Lib.hid hO2
        clear HSP hN1 hN2 hN3 hNB hO2 hsz
        go_wp2_with (at_builtin; refine wpList_papp rfl _ _ rfl rfl (HO2.out.alloc _) (some ⟨w6.heap.size, 0, none⟩) 1 1 [x] rfl (rd_one (rowAt_alloc_at _ _ _ rfl) (HN1.out.below ((Below.refl _ _).alloc (Nat.le_refl _) _)) HN2.out (HSPH.out _)) (fun e => by cases e) (by omega) ?_; intro v' w7 hO3 hgr3; clear hgr3)
        go_roundw
        case rel => exact ⟨k + 1, by go_num, by omega, by rw [HTK.out]; exact hO3⟩
        case measure => simp [intOf]; omega
      · have hge : ¬ (k : Int) < (ps.length : Int) := by omega
        have hke : ps.take k = ps := List.take_of_length_le (by omega)
        rw [hke] at hO
        clear hke hlk
        obtain ⟨A3, c3, rfl, hP3, hc3⟩ := hO.pks
        have hb := hO.below
        obtain ⟨S, er, hSe⟩ : ∃ S er, allR ps = (S, er) := ⟨_, _, rfl⟩
        have HSE := Lib.hid hSe
        have HP3 := Lib.hid hP3
        have hl50 : ps.length ≤ 50 := by omega
        clear hSe hP3 hc3 hO
        go_wp2_with fail
        refine (all_eq A3 ps.length c3 ps S er _ (HG.out.below hb) HP3.out hl50 HF.out HSE.out).mono ?_
        rintro e w5 ⟨rfl, hb5⟩
        have HP4 := Lib.hid (HP3.out.below hb5)
        replace hb := below_more hb hb5
        clear hb5 HP3
        go_wp2_with fail
        refine (refAll_eq A ps.length c ps S er (HS.out.below hb) (by omega) HF.out HSE.out).mono ?_
        rintro e w6 ⟨rfl, hb6⟩
        have HP5 := Lib.hid (HP4.out.below hb6)
        replace hb := below_more hb hb6
        clear hb6 HP4
        go_wp2_with fail
        refine (refSameAll_yes A3 A ps.length c3 c ps _ HP5.out (HS.out.below hb) hl50 HF.out).mono ?_
        rintro e w7 ⟨rfl, hb7⟩
        replace hb := below_more hb hb7
        clear hb7 HP5
        go_wp2_with fail
        refine (awake_any _ (HG.out.below hb)).mono ?_
        rintro e w8 ⟨rfl, hb8⟩
        go_wp2_with fail
        go_ret
        exact ⟨rfl, below_more hb hb8⟩
end lawWriteAll
end Go.Proofs.YtphdooaihbmnlaaGreatDoor
