/-
  Messages: a slice of them in the world; one that a call makes itself; a message's box; when two are one. (Of no package: taken out of keep's texts.)
-/
import Derived.Test.YtihgikhnkkmhhaaOuts
import Derived.Deep.AppendLies
import Derived.Laws.StructEq
import Derived.Deep.MidRow
set_option linter.unusedSimpArgs false
set_option linter.unusedVariables false
namespace Go.Proofs.Ytihgikhnkkmhhaa
open Go.RowKit

/-- A message: topic, payload, Qos, Retain. -/
abbrev Ms := List UInt8 × List UInt8 × Int × Bool
def msV (m : Ms) : List Value := [.string ⟨m.1.toArray⟩, .string ⟨m.2.1.toArray⟩, .int .u8 m.2.2.1, .bool m.2.2.2]
def flatM (L : List Ms) : List Value := L.flatMap msV
theorem flatM_cons (m : Ms) (L : List Ms) : flatM (m :: L) = .string ⟨m.1.toArray⟩ :: .string ⟨m.2.1.toArray⟩ :: .int .u8 m.2.2.1 :: .bool m.2.2.2 :: flatM L := rfl
theorem flatM_len (L : List Ms) : (flatM L).length = L.length * 4 := by
  induction L with
  | nil => rfl
  | cons a r ih => rw [flatM_cons, List.length_cons, List.length_cons, List.length_cons, List.length_cons, ih, List.length_cons]; omega
theorem flatM_app (a b : List Ms) : flatM (a ++ b) = flatM a ++ flatM b := List.flatMap_append
theorem flatM_one (L : List Ms) : ∀ u ∈ flatM L, u.oneCell' = true := by
  intro u hu
  unfold flatM at hu
  rw [List.mem_flatMap] at hu
  obtain ⟨h, _, hu⟩ := hu
  simp only [msV, List.mem_cons, List.not_mem_nil, or_false] at hu
  rcases hu with rfl | rfl | rfl | rfl <;> rfl
theorem flatM_at : ∀ (L : List Ms) (j : Nat) (m : Ms), L[j]? = some m → (flatM L)[j * 4]? = some (.string ⟨m.1.toArray⟩) ∧ (flatM L)[j * 4 + 1]? = some (.string ⟨m.2.1.toArray⟩) ∧ (flatM L)[j * 4 + 2]? = some (.int .u8 m.2.2.1) ∧ (flatM L)[j * 4 + 3]? = some (.bool m.2.2.2)
  | [], j, h, e => by simp at e
  | a :: r, 0, h, e => by
    simp at e; subst e
    exact ⟨rfl, rfl, rfl, rfl⟩
  | a :: r, j + 1, h, e => by
    have := flatM_at r j h (by simpa using e)
    rw [flatM_cons, show (j + 1) * 4 = j * 4 + 1 + 1 + 1 + 1 by omega, show j * 4 + 1 + 1 + 1 + 1 + 1 = (j * 4 + 1) + 1 + 1 + 1 + 1 by omega, show j * 4 + 1 + 1 + 1 + 1 + 2 = (j * 4 + 2) + 1 + 1 + 1 + 1 by omega, show j * 4 + 1 + 1 + 1 + 1 + 3 = (j * 4 + 3) + 1 + 1 + 1 + 1 by omega]
    simp only [List.getElem?_cons_succ]
    exact this
/-- A message stands at a place. -/
def MsAt (w : World) (b o : Nat) (m : Ms) : Prop :=
  w.cell? ⟨b, o, none⟩ = some (.string ⟨m.1.toArray⟩) ∧ w.cell? ⟨b, o + 1, none⟩ = some (.string ⟨m.2.1.toArray⟩) ∧ w.cell? ⟨b, o + 2, none⟩ = some (.int .u8 m.2.2.1) ∧ w.cell? ⟨b, o + 3, none⟩ = some (.bool m.2.2.2)
theorem MsAt.lt {w : World} {b o : Nat} {m : Ms} (h : MsAt w b o m) : b < w.heap.size := World.block_lt_of_cell? _ _ h.1
theorem MsAt.below {w w' : World} {b o : Nat} {m : Ms} (h : MsAt w b o m) (hb : Below w.heap.size w w') : MsAt w' b o m :=
  ⟨(hb.cell (World.block_lt_of_cell? _ _ h.1)).trans h.1, (hb.cell (World.block_lt_of_cell? _ _ h.2.1)).trans h.2.1, (hb.cell (World.block_lt_of_cell? _ _ h.2.2.1)).trans h.2.2.1, (hb.cell (World.block_lt_of_cell? _ _ h.2.2.2)).trans h.2.2.2⟩
theorem MsAt.outs {w w' : World} {b o : Nat} {x : Ms} {F : Nat → Prop} (h : MsAt w b o x) (hU : Outs w w' F) (hn : ¬ F b) : MsAt w' b o x :=
  ⟨hU.cell _ _ h.1 hn, hU.cell _ _ h.2.1 hn, hU.cell _ _ h.2.2.1 hn, hU.cell _ _ h.2.2.2 hn⟩
theorem msAt_new (w : World) (m : Ms) (t : TypeId) : MsAt (w.alloc (.cells #[.string ⟨m.1.toArray⟩, .string ⟨m.2.1.toArray⟩, .int .u8 m.2.2.1, .bool m.2.2.2] t)) w.heap.size 0 m :=
  ⟨by rw [World.cell?_alloc_new]; rfl, by rw [World.cell?_alloc_new]; rfl, by rw [World.cell?_alloc_new]; rfl, by rw [World.cell?_alloc_new]; rfl⟩
/-- A slice of messages reads as L. -/
def Msgs (w : World) (A : Option Addr) (n : Nat) (L : List Ms) : Prop :=
  L.length = n ∧ (0 < n → ∃ b off, A = some ⟨b, off, none⟩ ∧ ∀ j u, (flatM L)[j]? = some u → w.cell? ⟨b, off + j, none⟩ = some u)
section
variable {w w' : World} {A : Option Addr} {n : Nat} {L : List Ms}
theorem Msgs.len (h : Msgs w A n L) : L.length = n := h.1
theorem Msgs.below (h : Msgs w A n L) (hb : Below w.heap.size w w') : Msgs w' A n L :=
  ⟨h.1, fun hn => by
    obtain ⟨b, off, e, hc⟩ := h.2 hn
    exact ⟨b, off, e, fun j x hx => (hb.cell (World.block_lt_of_cell? _ _ (hc j x hx))).trans (hc j x hx)⟩⟩
theorem Msgs.outs {F : Nat → Prop} (h : Msgs w A n L) (hU : Outs w w' F) (hn : ∀ b o, A = some ⟨b, o, none⟩ → ¬ F b) : Msgs w' A n L :=
  ⟨h.1, fun h0 => by
    obtain ⟨b, off, e, hc⟩ := h.2 h0
    exact ⟨b, off, e, fun j x hx => hU.cell _ _ (hc j x hx) (hn b off e)⟩⟩
theorem Msgs.at_ (h : Msgs w A n L) {k : Nat} (hk : k < n) : ∃ b off x, A = some ⟨b, off, none⟩ ∧ L[k]? = some x ∧ MsAt w b (off + k * 4) x := by
  obtain ⟨hl, h⟩ := h
  obtain ⟨b, off, rfl, hc⟩ := h (by omega)
  have hlt : k < L.length := by omega
  have hx : L[k]? = some L[k] := List.getElem?_eq_getElem hlt
  obtain ⟨h1, h2, h3, h4⟩ := flatM_at L k L[k] hx
  exact ⟨b, off, L[k], rfl, hx, hc _ _ h1, by rw [Nat.add_assoc]; exact hc _ _ h2, by rw [Nat.add_assoc]; exact hc _ _ h3, by rw [Nat.add_assoc]; exact hc _ _ h4⟩
theorem Msgs.nil (A : Option Addr) : Msgs w A 0 [] := ⟨rfl, fun h => by omega⟩
theorem msgs_one {b o : Nat} {m : Ms} (h : MsAt w b o m) : Msgs w (some ⟨b, o, none⟩) 1 [m] := by
  refine ⟨rfl, fun _ => ⟨_, _, rfl, fun j u hu => ?_⟩⟩
  match j, hu with
  | 0, hu => simp [flatM, msV] at hu; subst hu; exact h.1
  | 1, hu => simp [flatM, msV] at hu; subst hu; exact h.2.1
  | 2, hu => simp [flatM, msV] at hu; subst hu; exact h.2.2.1
  | 3, hu => simp [flatM, msV] at hu; subst hu; exact h.2.2.2
  | j + 4, hu => simp [flatM, msV] at hu
theorem msgs_new (w : World) (m : Ms) (t : TypeId) : Msgs (w.alloc (.cells #[.string ⟨m.1.toArray⟩, .string ⟨m.2.1.toArray⟩, .int .u8 m.2.2.1, .bool m.2.2.2] t)) (some ⟨w.heap.size, 0, none⟩) 1 [m] := msgs_one (msAt_new w m t)
theorem flatM_drop : ∀ (k : Nat) (L : List Ms), flatM (L.drop k) = (flatM L).drop (k * 4)
  | 0, L => by simp
  | k + 1, [] => by simp [flatM]
  | k + 1, m :: r => by
    rw [List.drop_succ_cons, flatM_drop k r, flatM_cons, show (k + 1) * 4 = k * 4 + 1 + 1 + 1 + 1 by omega]
    rfl
theorem flatM_take : ∀ (k : Nat) (L : List Ms), flatM (L.take k) = (flatM L).take (k * 4)
  | 0, L => by simp [flatM]
  | k + 1, [] => by simp [flatM]
  | k + 1, m :: r => by
    rw [List.take_succ_cons, flatM_cons, flatM_take k r, flatM_cons, show (k + 1) * 4 = k * 4 + 1 + 1 + 1 + 1 by omega]
    rfl
theorem Msgs.dropAt {b off : Nat} (h : Msgs w (some ⟨b, off, none⟩) n L) (k m : Nat) (hk : k ≤ n) (hm : m = n - k) : Msgs w (some ⟨b, off + k * 4, none⟩) m (L.drop k) := by
  have hl := h.len
  subst hm
  refine ⟨by rw [List.length_drop]; omega, fun hk0 => ?_⟩
  obtain ⟨b, off, e, hc⟩ := h.2 (by omega)
  cases e
  refine ⟨_, _, rfl, fun j u hu => ?_⟩
  rw [flatM_drop, List.getElem?_drop] at hu
  rw [Nat.add_assoc]
  exact hc _ u hu
theorem flatM_set : ∀ (L : List Ms) (i : Nat) (m : Ms), ((((flatM L).set (i * 4) (.string ⟨m.1.toArray⟩)).set (i * 4 + 1) (.string ⟨m.2.1.toArray⟩)).set (i * 4 + 2) (.int .u8 m.2.2.1)).set (i * 4 + 3) (.bool m.2.2.2) = flatM (L.set i m)
  | [], i, m => by simp [flatM]
  | a :: r, 0, m => rfl
  | a :: r, i + 1, m => by
    rw [List.set_cons_succ, flatM_cons, flatM_cons, ← flatM_set r i m, show (i + 1) * 4 = i * 4 + 1 + 1 + 1 + 1 by omega, show i * 4 + 1 + 1 + 1 + 1 + 1 = i * 4 + 1 + 1 + 1 + 1 + 1 by rfl, show i * 4 + 1 + 1 + 1 + 1 + 2 = i * 4 + 2 + 1 + 1 + 1 + 1 by omega, show i * 4 + 1 + 1 + 1 + 1 + 3 = i * 4 + 3 + 1 + 1 + 1 + 1 by omega]
    simp only [List.set_cons_succ]
theorem Msgs.grown {row : Option Nat} (h : Msgs w A n L) (hg : w.grownBy w' row) (hne : ∀ b o, A = some ⟨b, o, none⟩ → some b ≠ row) : Msgs w' A n L :=
  ⟨h.1, fun hn => by
    obtain ⟨b, off, e, hc⟩ := h.2 hn
    exact ⟨b, off, e, fun j x hx => (hg.cell_far _ (World.block_lt_of_cell? _ _ (hc j x hx)) (hne b off e)).trans (hc j x hx)⟩⟩
end
/-- The call's own row of messages. -/
def OwnM (B : Nat) (w0 wr : World) (v : Value) (L : List Ms) : Prop :=
  wr.ownsRow B 28 4 v L.length (flatM L) ∧ Below B w0 wr ∧ B ≤ wr.heap.size
section
variable {B : Nat} {w0 wr : World} {v : Value} {L : List Ms}
theorem OwnM.below (h : OwnM B w0 wr v L) : Below B w0 wr := h.2.1
theorem OwnM.nil (h : Below B w0 wr) (hB : B ≤ wr.heap.size) : OwnM B w0 wr (.slice none 0 0) [] := ⟨World.ownsRow_nil _ _ _ _, h, hB⟩
theorem OwnM.alloc (h : OwnM B w0 wr v L) (o : Obj) : OwnM B w0 (wr.alloc o) v L := ⟨h.1.alloc o, h.2.1.alloc h.2.2 o, Nat.le_trans h.2.2 (by simp)⟩
theorem OwnM.drew (h : OwnM B w0 wr v L) : OwnM B w0 wr.drew v L := ⟨h.1, h.2.1.drew, h.2.2⟩
theorem OwnM.drewN (h : OwnM B w0 wr v L) (n : Nat) : OwnM B w0 (wr.drewN n) v L := ⟨h.1, below_drewN h.2.1 n, h.2.2⟩
theorem OwnM.more {w' : World} (h : OwnM B w0 wr v L) (hb : Below wr.heap.size wr w') : OwnM B w0 w' v L :=
  ⟨own_below h.1 hb, h.2.1.trans (hb.mono h.2.2), Nat.le_trans h.2.2 hb.size⟩
theorem OwnM.form (h : OwnM B w0 wr v L) : ∃ A c, v = .slice A L.length c ∧ L.length ≤ c ∧ Msgs wr A L.length L ∧ (A = none ∧ c = 0 ∨ ∃ b, A = some ⟨b, 0, none⟩) ∧ (∀ b o, A = some ⟨b, o, none⟩ → B ≤ b) := by
  rcases h.1.2 with ⟨rfl, hn⟩ | ⟨g, cap, cur, rfl, hB, hh, hc, _, _, _⟩
  · exact ⟨none, 0, by rw [hn], by omega, ⟨rfl, fun h => by omega⟩, .inl ⟨rfl, rfl⟩, fun b o e => by cases e⟩
  · refine ⟨_, _, rfl, hc, ⟨rfl, fun _ => ⟨g, 0, rfl, fun j x hx => ?_⟩⟩, .inr ⟨g, rfl⟩, fun b o e => by cases e; exact hB⟩
    have := h.1.cells (g := g) rfl j x hx
    have hadd : (⟨g, 0, none⟩ : Addr).add j = ⟨g, 0 + j, none⟩ := by unfold Addr.add; split <;> simp_all
    rw [hadd] at this
    exact this
theorem ms_info : (Try.prog.info? 28).map (fun i => (i.zero, i.size, i.bytes)) = some (some (.agg #[.string ByteArray.empty, .string ByteArray.empty, .int .u8 0, .bool false]), 4, 40) := by kernel_rfl
theorem wpList_mapp {ops : Array Oper} {rest : List Oper} {o : Oper} {a : Act} {Q : Exit → Act → World → Prop} (hgd : o.guard = none) (s x : Operand)
    (ho : o.op = .call { callee := .builtin .append, args := #[s, x], argTypes := #[30, 30] })
    (hs : a.eval s = v) (hb : OwnM B w0 wr v L) (A : Option Addr) (n c : Nat) (ys : List Ms) (hx : a.eval x = .slice A n c) (hI : Msgs wr A n ys) (hc0 : A = none → c = 0)
    (hl : L.length + n ≤ 10000000)
    (h : ∀ v' w', OwnM B w0 w' v' (L ++ ys) → wr.grownBy w' v.ownBlock → wpList Try.prog ops Q rest (a.put o.dst v') w') : wpList Try.prog ops Q (o :: rest) a wr := by
  obtain ⟨i, hi, hz0, hz1, hz2⟩ := info_parts ms_info
  obtain ⟨hown, hbel, hB⟩ := hb
  have hyl := hI.len
  rcases A with _ | ad
  · have hn : n = 0 := by
      rcases Nat.eq_zero_or_pos n with h0 | h0
      · exact h0
      · obtain ⟨_, _, e, _⟩ := hI.2 h0
        cases e
    subst hn
    obtain rfl : ys = [] := List.eq_nil_of_length_eq_zero hyl
    obtain rfl := hc0 rfl
    exact wpList_append_own_none hgd s x _ ho B _ i 4 Try.underlying30 hi v L.length _ hs hown hx (h v wr ⟨by simpa using hown, hbel, hB⟩ (World.grownBy.refl wr _))
  · subst hyl
    refine wpList_append_own wr hgd s x _ ho B _ i _ 4 40 Try.underlying30 hi hz0 hz1 hz2 rfl (by decide) v L.length _ hs hown ad ys.length c (flatM ys) hx (flatM_len ys) ?_ (flatM_one ys) (by unfold maxLen; omega) (by omega) hB ?_
    · intro j u hu
      have hlt : j < (flatM ys).length := (List.getElem?_eq_some_iff.1 hu).1
      rw [flatM_len] at hlt
      obtain ⟨b, off, e, hc⟩ := hI.2 (by omega)
      cases e
      have hadd : (⟨b, off, none⟩ : Addr).add j = ⟨b, off + j, none⟩ := by unfold Addr.add; split <;> simp_all
      rw [hadd]
      exact hc j u hu
    · intro v' w' hown' hgr _
      refine h v' w' ⟨?_, ?_, ?_⟩ hgr
      · rw [List.length_append, flatM_app]; exact hown'
      · exact hbel.grown hgr hB (fun k hk => (hown.lt k hk).1)
      · exact Nat.le_trans hB hgr.size
end
theorem step_mapp {ops : Array Oper} {o : Oper} {a : Act} {K : Act → World → Prop} {Q : Exit → Act → World → Prop} {E : Prop} {B : Nat} {w0 wr : World} {v : Value} {L : List Ms} (hgd : o.guard = none) (s x : Operand)
    (ho : o.op = .call { callee := .builtin .append, args := #[s, x], argTypes := #[30, 30] })
    (hs : a.eval s = v) (hb : OwnM B w0 wr v L) (A : Option Addr) (n c : Nat) (ys : List Ms) (hx : a.eval x = .slice A n c) (hI : Msgs wr A n ys) (hc0 : A = none → c = 0)
    (hl : L.length + n ≤ 10000000)
    (h : ∀ v' w', OwnM B w0 w' v' (L ++ ys) → wr.grownBy w' v.ownBlock → K (a.put o.dst v') w') : if Region.wanted o (yielded ops a.tmps) = true then Oper.wp Try.prog o a wr K Q else E := by
  have hw : Region.wanted o (yielded ops a.tmps) = true := by simp [Region.wanted, hgd]
  rw [if_pos hw]
  obtain ⟨i, hi, hz0, hz1, hz2⟩ := info_parts ms_info
  obtain ⟨hown, hbel, hB⟩ := hb
  have hyl := hI.len
  rcases A with _ | ad
  · have hn : n = 0 := by
      rcases Nat.eq_zero_or_pos n with h0 | h0
      · exact h0
      · obtain ⟨_, _, e, _⟩ := hI.2 h0
        cases e
    subst hn
    obtain rfl : ys = [] := List.eq_nil_of_length_eq_zero hyl
    obtain rfl := hc0 rfl
    have hrun := run_append_owned_none (P := Try.prog) (w := wr) B 30 o.type 28 i 4 Try.underlying30 hi v L.length _ hown
    unfold Oper.wp
    simp [execOp, ho, resolve, invoke, builtin, hs, hx, hrun, Result.andThen]
    exact h _ _ ⟨by simpa using hown, hbel, hB⟩ (World.grownBy.refl wr _)
  · subst hyl
    refine wp_append_own wr s x _ ho B _ i _ 4 40 Try.underlying30 hi hz0 hz1 hz2 rfl (by decide) v L.length _ hs hown ad ys.length c (flatM ys) hx (flatM_len ys) ?_ (flatM_one ys) (by unfold maxLen; omega) (by omega) hB ?_
    · intro j u hu
      have hlt : j < (flatM ys).length := (List.getElem?_eq_some_iff.1 hu).1
      rw [flatM_len] at hlt
      obtain ⟨b, off, e, hc⟩ := hI.2 (by omega)
      cases e
      have hadd : (⟨b, off, none⟩ : Addr).add j = ⟨b, off + j, none⟩ := by unfold Addr.add; split <;> simp_all
      rw [hadd]
      exact hc j u hu
    · intro v' w' hown' hgr _
      refine h v' w' ⟨?_, ?_, ?_⟩ hgr
      · rw [List.length_append, flatM_app]; exact hown'
      · exact hbel.grown hgr hB (fun k hk => (hown.lt k hk).1)
      · exact Nat.le_trans hB hgr.size
/-! When two messages are one. -/
def eqM (a b : Ms) : Bool := a.1 == b.1 && a.2.1 == b.2.1 && a.2.2.1 == b.2.2.1 && a.2.2.2 == b.2.2.2
theorem eqM_iff (a b : Ms) : eqM a b = (a == b) := by
  obtain ⟨a1, a2, a3, a4⟩ := a
  obtain ⟨b1, b2, b3, b4⟩ := b
  rw [Bool.eq_iff_iff]
  unfold eqM
  simp [and_assoc]
theorem ms_ty : Try.prog.underlying 28 = some (.struct (Try.prog.fieldsOf 28)) := by kernel_rfl
theorem ms_held : Try.prog.stoodInHeld 28 = false := by kernel_rfl
theorem ms_gt : Try.prog.eqGuardType Try.prog.depth 28 = false := by kernel_rfl
@[go_sem] theorem ms_guard (op : BinOp) (x y : Operand) (xs ys : Array Value) (W : World) : (eqGuard op 28 x y (.agg xs) (.agg ys)).run Try.prog W = .ok () W := run_eqGuard_agg W op 28 x y xs ys ms_gt
set_option maxRecDepth 100000 in
@[go_sem high] theorem ms_eqf (a b c d : List UInt8) (q k : Int) (r s : Bool) (W : World) : (Op.equalIn 10000 28 (.agg #[.string ⟨a.toArray⟩, .string ⟨b.toArray⟩, .int .u8 q, .bool r]) (.agg #[.string ⟨c.toArray⟩, .string ⟨d.toArray⟩, .int .u8 k, .bool s])).run Try.prog W = .ok (eqM (a, b, q, r) (c, d, k, s)) W := by
  rw [run_equalIn_struct W 9999 28 _ _ ms_ty ms_held]
  obtain ⟨f1, f2, f3, f4, hf, h1, h2, h3, h4, t1, t2, t3, t4, o1, o2, o3, o4⟩ : ∃ f1 f2 f3 f4 : Field, (Try.prog.fieldsOf 28).toList = [f1, f2, f3, f4] ∧ f1.name ≠ "_" ∧ f2.name ≠ "_" ∧ f3.name ≠ "_" ∧ f4.name ≠ "_" ∧ f1.type = 9 ∧ f2.type = 9 ∧ f3.type = 5 ∧ f4.type = 4 ∧ f1.offset = 0 ∧ f2.offset = 1 ∧ f3.offset = 2 ∧ f4.offset = 3 := by
    refine ⟨_, _, _, _, rfl, by decide, by decide, by decide, by decide, rfl, rfl, rfl, rfl, rfl, rfl, rfl, rfl⟩
  rw [hf]
  unfold Op.eqFields Op.eqFields Op.eqFields Op.eqFields Op.eqFields
  rw [if_pos h1, if_pos h2, if_pos h3, if_pos h4, t1, t2, t3, t4, o1, o2, o3, o4]
  go_simp
  unfold eqM
  by_cases e1 : a = c
  · by_cases e2 : b = d
    · by_cases e3 : q = k
      · by_cases e4 : r = s
        · simp [e1, e2, e3, e4]
        · simp [e1, e2, e3, e4]
      · simp [e1, e2, e3]
    · simp [e1, e2]
  · simp [e1]
@[go_sem high] theorem ms_eql (a b c d : List UInt8) (q k : Int) (r s : Bool) (W : World) : (binOp .eql 28 (.agg #[.string ⟨a.toArray⟩, .string ⟨b.toArray⟩, .int .u8 q, .bool r]) (.agg #[.string ⟨c.toArray⟩, .string ⟨d.toArray⟩, .int .u8 k, .bool s])).run Try.prog W = .ok (.bool (eqM (a, b, q, r) (c, d, k, s))) W := by
  rw [run_eql_struct, ms_eqf]; rfl
@[go_sem high] theorem ms_neq (a b c d : List UInt8) (q k : Int) (r s : Bool) (W : World) : (binOp .neq 28 (.agg #[.string ⟨a.toArray⟩, .string ⟨b.toArray⟩, .int .u8 q, .bool r]) (.agg #[.string ⟨c.toArray⟩, .string ⟨d.toArray⟩, .int .u8 k, .bool s])).run Try.prog W = .ok (.bool (!(eqM (a, b, q, r) (c, d, k, s)))) W := by
  rw [run_neq_struct, ms_eqf]; rfl
/-- A message's box. -/
def BxM (w : World) (g : Nat) (m : Ms) : Prop := w.heap[g]? = some (.cells #[.string ⟨m.1.toArray⟩, .string ⟨m.2.1.toArray⟩, .int .u8 m.2.2.1, .bool m.2.2.2] 28 (0, 0))
section
variable {w w' : World} {g : Nat} {m : Ms}
theorem BxM.lt (h : BxM w g m) : g < w.heap.size := (Array.getElem?_eq_some_iff.1 h).1
theorem BxM.below (h : BxM w g m) (hb : Below w.heap.size w w') : BxM w' g m := (hb.block g h.lt).trans h
theorem BxM.outs {G : Nat → Prop} (h : BxM w g m) (hU : Outs w w' G) (hg : ¬ G g) : BxM w' g m := (hU.block g h.lt hg).trans h
theorem BxM.at_ (h : BxM w g m) : MsAt w g 0 m := ⟨cell_of_row w g 0 _ _ _ h, cell_of_row w g 1 _ _ _ h, cell_of_row w g 2 _ _ _ h, cell_of_row w g 3 _ _ _ h⟩
theorem BxM.c0 (h : BxM w g m) : w.cell? ⟨g, 0, none⟩ = some (.string ⟨m.1.toArray⟩) := h.at_.1
theorem BxM.c1 (h : BxM w g m) : w.cell? ⟨g, 1, none⟩ = some (.string ⟨m.2.1.toArray⟩) := h.at_.2.1
theorem BxM.c2 (h : BxM w g m) : w.cell? ⟨g, 2, none⟩ = some (.int .u8 m.2.2.1) := h.at_.2.2.1
theorem BxM.c3 (h : BxM w g m) : w.cell? ⟨g, 3, none⟩ = some (.bool m.2.2.2) := h.at_.2.2.2
theorem BxM.fr (h : BxM w g m) (j : Nat) : w.frozen? ⟨g, j, none⟩ = false := by unfold World.frozen?; rw [show w.heap[g]? = _ from h]; simp
theorem BxM.new (w : World) (m : Ms) : BxM (w.alloc (.cells #[.string ⟨m.1.toArray⟩, .string ⟨m.2.1.toArray⟩, .int .u8 m.2.2.1, .bool m.2.2.2] 28)) w.heap.size m := heap_alloc_new w _
theorem BxM.set0 (h : BxM w g m) (s : List UInt8) : BxM (w.setCell ⟨g, 0, none⟩ (.string ⟨s.toArray⟩)) g (s, m.2) := heap_setCell_same w g 0 _ _ _ h
theorem BxM.set1 (h : BxM w g m) (s : List UInt8) : BxM (w.setCell ⟨g, 1, none⟩ (.string ⟨s.toArray⟩)) g (m.1, s, m.2.2) := heap_setCell_same w g 1 _ _ _ h
theorem BxM.set2 (h : BxM w g m) (q : Int) : BxM (w.setCell ⟨g, 2, none⟩ (.int .u8 q)) g (m.1, m.2.1, q, m.2.2.2) := heap_setCell_same w g 2 _ _ _ h
theorem BxM.set3 (h : BxM w g m) (b : Bool) : BxM (w.setCell ⟨g, 3, none⟩ (.bool b)) g (m.1, m.2.1, m.2.2.1, b) := heap_setCell_same w g 3 _ _ _ h
theorem BxM.load (h : BxM w g m) : (loadVar 28 ⟨g, 0, none⟩).run Try.prog w = .ok (.agg #[.string ⟨m.1.toArray⟩, .string ⟨m.2.1.toArray⟩, .int .u8 m.2.2.1, .bool m.2.2.2]) w := by
  have := run_loadVar_mid (P := Try.prog) w g 0 28 [.string ⟨m.1.toArray⟩, .string ⟨m.2.1.toArray⟩, .int .u8 m.2.2.1, .bool m.2.2.2] _ (World.rangeAt_of_block h 0 4) Try.underlying28 rfl (by kernel_rfl)
  exact this
/-- A function's result is a message; a message and another value. -/
theorem ret_ms {fn : Func} {R : Ending → World → Prop} {a : Act} (s : Tmp) (hres : fn.results = #[.cell s 28]) (hs : a.tmps.getD s undef = .pointer (some ⟨g, 0, none⟩)) (hB : BxM w g m) (hd : a.defers = [])
    (hR : R (.returned (.agg #[.string ⟨m.1.toArray⟩, .string ⟨m.2.1.toArray⟩, .int .u8 m.2.2.1, .bool m.2.2.2])) w) : bodyPost Try.prog fn R .ret a w := by
  refine bodyPost_ret (v := .agg #[.string ⟨m.1.toArray⟩, .string ⟨m.2.1.toArray⟩, .int .u8 m.2.2.1, .bool m.2.2.2]) ?_ hd hR
  have h := hB.load
  simp only [results, hres, hs, List.mapM_toArray, List.mapM_cons, List.mapM_nil, Sem.run_bind, asAddr, Sem.run_pure, Result.andThen_ok, h]
  simp [h]
theorem ret_ms2 {fn : Func} {R : Ending → World → Prop} {a : Act} {v : Value} (s u : Tmp) (hres : fn.results = #[.cell s 28, .tmp u]) (hs : a.tmps.getD s undef = .pointer (some ⟨g, 0, none⟩)) (hu : a.tmps.getD u undef = v) (hB : BxM w g m) (hd : a.defers = [])
    (hR : R (.returned (.tuple #[.agg #[.string ⟨m.1.toArray⟩, .string ⟨m.2.1.toArray⟩, .int .u8 m.2.2.1, .bool m.2.2.2], v])) w) : bodyPost Try.prog fn R .ret a w := by
  refine bodyPost_ret (v := .tuple #[.agg #[.string ⟨m.1.toArray⟩, .string ⟨m.2.1.toArray⟩, .int .u8 m.2.2.1, .bool m.2.2.2], v]) ?_ hd hR
  have h := hB.load
  simp only [results, hres, hs, hu, List.mapM_toArray, List.mapM_cons, List.mapM_nil, Sem.run_bind, asAddr, Sem.run_pure, Result.andThen_ok, h]
  simp [h]
theorem BxM.other (h : BxM w g m) {b i : Nat} {v : Value} (hne : g ≠ b) : BxM (w.setCell ⟨b, i, none⟩ v) g m := (heap_setCell_other w _ g v hne).trans h
end
theorem outs_set4 (w : World) (g : Nat) (a b c d : Value) : Outs w ((((w.setCell ⟨g, 0, none⟩ a).setCell ⟨g, 1, none⟩ b).setCell ⟨g, 2, none⟩ c).setCell ⟨g, 3, none⟩ d) (fun x => x = g) :=
  ((((Outs.refl w (fun x => x = g)).setCell g 0 rfl _).setCell g 1 rfl _).setCell g 2 rfl _).setCell g 3 rfl _
/-- What holds of any message that comes in. -/
def MIn (x : Ms) : Prop := 0 ≤ x.2.2.1 ∧ x.2.2.1 ≤ 255 ∧ x.1.length ≤ 9223372036854775807 ∧ x.2.1.length ≤ 9223372036854775807
theorem msgs_cells {w : World} {b : Nat} : ∀ (L : List Ms) (off : Nat), (∀ j x, L[j]? = some x → MsAt w b (off + j * 4) x) → ∀ j u, (flatM L)[j]? = some u → w.cell? ⟨b, off + j, none⟩ = some u
  | [], _, _, j, u, h => by simp [flatM] at h
  | a :: r, off, h, j, u, hu => by
    rw [flatM_cons] at hu
    have h0 := h 0 a rfl
    rw [Nat.zero_mul, Nat.add_zero] at h0
    match j, hu with
    | 0, hu => simp at hu; subst hu; exact h0.1
    | 1, hu => simp at hu; subst hu; exact h0.2.1
    | 2, hu => simp at hu; subst hu; exact h0.2.2.1
    | 3, hu => simp at hu; subst hu; exact h0.2.2.2
    | j + 4, hu =>
      have := msgs_cells r (off + 4) (fun j x hx => by have := h (j + 1) x (by simpa using hx); rwa [Nat.succ_mul, Nat.add_comm (j * 4), ← Nat.add_assoc] at this) j u (by simpa using hu)
      rw [show off + (j + 4) = off + 4 + j by omega]
      exact this
end Go.Proofs.Ytihgikhnkkmhhaa
