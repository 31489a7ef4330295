/-
  Words for all walks of this seat: byte rows that a call owns; strings as lists of bytes; the last step of a law that answers true.
-/
import Derived.Test.YtihgikhnkkmhhaaRows
import Derived.WalkKit
import Derived.WalkSpells
import Derived.WalkLawsBesides
import Derived.ProofKit
import Derived.OpenShut
import Derived.ShutString
import Derived.Below
import Derived.Laws.OwnMore
import Derived.Laws.MakeOwn
import Derived.SliceStrings
import Derived.Lib.Hide
import Derived.Laws.IdiomStrings
import Derived.Laws.AppendOwnNone
import Derived.Deep.Draws
import Derived.BigQuiet
import Derived.Deep.QuietTactic
import Derived.Deep.RegionWith
import Derived.Deep.RegionHeld3
import Derived.IntWalk
set_option linter.unusedSimpArgs false
set_option linter.unusedVariables false
namespace Go.Proofs.Ytihgikhnkkmhhaa
open Go.RowKit

theorem ret_int {k : IntKind} {a b : Int} (h : a = b) : Ending.returned (.int k a) = .returned (.int k b) := by rw [h]
theorem ret_bool {a b : Bool} (h : a = b) : Ending.returned (.bool a) = .returned (.bool b) := by rw [h]
theorem ret_str {a b : List UInt8} (h : a = b) : Ending.returned (.string ⟨a.toArray⟩) = .returned (.string ⟨b.toArray⟩) := by rw [h]

/-- A callee that leaves the world as it was, inside a region that draws. -/
theorem quiet_left {P : Program} {f : FuncId} {args : Array Value} {w : World} {n : Nat} {v : Value} (h : Calls P f args (w.drewN n) fun e w' => e = .returned v ∧ w.drewN n = w') :
    Calls P f args (w.drewN n) fun e w'' => e = .returned v ∧ ∃ m, w'' = w.drewN m :=
  h.mono fun _ _ ⟨he, hw⟩ => ⟨he, n, hw.symm⟩
theorem quiet_more {P : Program} {f : FuncId} {args : Array Value} {w : World} {a n : Nat} {v : Value} (h : Calls P f args (w.drewN (a + n)) fun e w' => e = .returned v ∧ w.drewN (a + n) = w') :
    Calls P f args (w.drewN (a + n)) fun e w'' => e = .returned v ∧ ∃ m, w'' = w.drewN (a + m) :=
  h.mono fun _ _ ⟨he, hw⟩ => ⟨he, n, hw.symm⟩

theorem u16_bd (n : Int) (h : (Lit.int .u16 n).wf = true) : 0 ≤ n ∧ n ≤ 65535 := by
  simp only [Lit.wf, Bool.and_eq_true, decide_eq_true_eq] at h
  exact h
theorem u8_bd (n : Int) (h : (Lit.int .u8 n).wf = true) : 0 ≤ n ∧ n ≤ 255 := by
  simp only [Lit.wf, Bool.and_eq_true, decide_eq_true_eq] at h
  exact h
/-- A number as a byte. -/
def toB (x : Int) : UInt8 := UInt8.ofNat x.toNat
theorem toB_toNat (x : Int) (h0 : 0 ≤ x) (h1 : x < 256) : ((toB x).toNat : Int) = x := by
  unfold toB
  have : (UInt8.ofNat x.toNat).toNat = x.toNat % 256 := rfl
  rw [this]
  omega
theorem toB_of (b : UInt8) : toB (b.toNat : Int) = b := by
  unfold toB; simp

/-- A byte of a string. -/
theorem byte_at (l : List UInt8) (k : Nat) (h : k < l.length) (h' : k < (ByteArray.mk l.toArray).size) : (ByteArray.mk l.toArray)[k]'h' = l[k] := rfl
@[go_sem] theorem extract_list (l : List UInt8) (a b : Nat) : (ByteArray.mk l.toArray).extract a b = ⟨((l.take b).drop a).toArray⟩ := by
  apply ByteArray.ext
  simp [ByteArray.data_extract, List.drop_take]
@[go_sem] theorem str_app (a b : List UInt8) : ByteArray.mk a.toArray ++ ByteArray.mk b.toArray = ⟨(a ++ b).toArray⟩ := by
  rw [ByteArray.mk_append_mk]
theorem drop_at (l : List UInt8) (k : Nat) (h : k < l.length) : l.drop k = l[k] :: l.drop (k + 1) := List.drop_eq_getElem_cons h
theorem str_of (s : ByteArray) : ∃ l : List UInt8, s = ⟨l.toArray⟩ ∧ l.length = s.size := ⟨s.data.toList, by simp, by simp⟩

/-- The cells of a row of bytes. -/
def bcells (l : List UInt8) : List Value := l.map fun b => .int .u8 (b.toNat : Int)
theorem bcells_len (l : List UInt8) : (bcells l).length = l.length := by simp [bcells]
theorem bcells_append (a b : List UInt8) : bcells (a ++ b) = bcells a ++ bcells b := by simp [bcells]
theorem bcells_one (l : List UInt8) : ∀ u ∈ bcells l, u.oneCell' = true := by
  intro u hu
  simp only [bcells, List.mem_map] at hu
  obtain ⟨b, _, rfl⟩ := hu
  rfl

theorem own_below {B : Nat} {E : TypeId} {sz : Nat} {v : Value} {n : Nat} {xs : List Value} {w w' : World} (h : w.ownsRow B E sz v n xs) (hb : Below w.heap.size w w') : w'.ownsRow B E sz v n xs := by
  refine ⟨h.1, ?_⟩
  rcases h.2 with h1 | ⟨g, cap, cur, e, h1, h2, h3⟩
  · exact Or.inl h1
  · exact Or.inr ⟨g, cap, cur, e, h1, (hb.block g (Array.getElem?_eq_some_iff.1 h2).1).trans h2, h3⟩
/-- The call's own row of bytes: v has the bytes l; what was there below B is as it was in w0. -/
def Buf (E : TypeId) (B : Nat) (w0 wr : World) (v : Value) (l : List UInt8) : Prop :=
  wr.ownsRow B E 1 v l.length (bcells l) ∧ Below B w0 wr ∧ B ≤ wr.heap.size

section
variable {E : TypeId} {B : Nat} {w0 wr : World} {v : Value} {l : List UInt8}
theorem Buf.below (h : Buf E B w0 wr v l) : Below B w0 wr := h.2.1
theorem Buf.alloc (h : Buf E B w0 wr v l) (o : Obj) : Buf E B w0 (wr.alloc o) v l :=
  ⟨h.1.alloc o, h.2.1.alloc h.2.2 o, Nat.le_trans h.2.2 (by simp)⟩
theorem Buf.drew (h : Buf E B w0 wr v l) : Buf E B w0 wr.drew v l :=
  ⟨h.1, h.2.1.drew, h.2.2⟩
theorem Buf.more {w' : World} (h : Buf E B w0 wr v l) (hb : Below wr.heap.size wr w') : Buf E B w0 w' v l :=
  ⟨own_below h.1 hb, h.2.1.trans (hb.mono h.2.2), Nat.le_trans h.2.2 hb.size⟩
theorem Buf.nil (h : Below B w0 wr) (hB : B ≤ wr.heap.size) : Buf E B w0 wr (.slice none 0 0) [] :=
  ⟨World.ownsRow_nil _ _ _ _, h, hB⟩
theorem Buf.conv {P : Program} {T S : TypeId} (h : Buf E B w0 wr v l) (hT : P.underlying T = some (.slice E)) (hE : P.underlying E = some (.int .u8)) (hS : P.underlying S = some .string) :
    (convert T S v).run P wr = .ok (.string ⟨l.toArray⟩) wr := by
  obtain ⟨hown, _, _⟩ := h
  rcases hown.2 with ⟨rfl, hn⟩ | ⟨g, cap, cur, rfl, _, _, _, _, _, _⟩
  · have : l = [] := List.eq_nil_of_length_eq_zero hn
    subst this
    rw [run_convert_bytes_string wr T S E none 0 0 hT hE hS]; rfl
  · exact run_convert_bytes_back wr T S E ⟨g, 0, none⟩ cap l hT hE hS (fun j hj => hown.cells (g := g) rfl j _ (by simp [bcells, List.getElem?_eq_getElem hj]))

theorem wpList_buf {P : Program} {ops : Array Oper} {rest : List Oper} {o : Oper} {a : Act} {Q : Exit → Act → World → Prop} (hgd : o.guard = none) (s x : Operand) (T : TypeId)
    (ho : o.op = .call { callee := .builtin .append, args := #[s, x], argTypes := #[T, T] })
    (hT : P.underlying T = some (.slice E)) (hE : (P.info? E).map (fun i => (i.zero, i.size, i.bytes)) = some (some (.int .u8 0), 1, 1))
    (hs : a.eval s = v) (hb : Buf E B w0 wr v l) (news : List UInt8) (g m c : Nat) (hm : news.length = m) (hx : a.eval x = .slice (some ⟨g, 0, none⟩) m c)
    (hc : ∀ j u, news[j]? = some u → wr.cell? ⟨g, j, none⟩ = some (.int .u8 (u.toNat : Int)))
    (hl : l.length + m ≤ 140737488355328)
    (h : ∀ v' w', Buf E B w0 w' v' (l ++ news) → wpList P ops Q rest (a.put o.dst v') w') : wpList P ops Q (o :: rest) a wr := by
  obtain ⟨i, hi, hz0, hz1, hz2⟩ := info_parts hE
  obtain ⟨hown, hbel, hB⟩ := hb
  subst hm
  refine wpList_append_own wr hgd s x T ho B E i (.int .u8 0) 1 1 hT hi hz0 hz1 hz2 rfl (by decide) v l.length (bcells l) hs hown ⟨g, 0, none⟩ news.length c (bcells news) hx (by simp [bcells_len]) ?_ (bcells_one _) (by unfold maxLen; omega) (by omega) hB ?_
  · intro j u hu
    have hadd : (⟨g, 0, none⟩ : Addr).add j = ⟨g, j, none⟩ := by unfold Addr.add; split <;> simp_all
    rw [hadd]
    simp only [bcells, List.getElem?_map, Option.map_eq_some_iff] at hu
    obtain ⟨b, hb1, rfl⟩ := hu
    exact hc j b hb1
  · intro v' w' hown' hgr _
    refine h v' w' ⟨?_, ?_, ?_⟩
    · rw [List.length_append, bcells_append]; exact hown'
    · exact hbel.grown hgr hB (fun k hk => (hown.lt k hk).1)
    · exact Nat.le_trans hB hgr.size

theorem wpList_bufmake {P : Program} {ops : Array Oper} {rest : List Oper} {o : Oper} {a : Act} {Q : Exit → Act → World → Prop} (hgd : o.guard = none) (x y : Operand) (T : TypeId)
    (ho : o.op = Op.makeSlice T x y)
    (hT : P.underlying T = some (.slice E)) (hE : (P.info? E).map (fun i => (i.zero, i.size, i.bytes)) = some (some (.int .u8 0), 1, 1))
    (C : Int) (n : Nat) (hx : a.eval x = .int .i64 0) (hy : a.eval y = .int .i64 C) (hC : C = (n : Int)) (hn : n ≤ 281474976710656) (hbel : Below B w0 wr) (hB : B ≤ wr.heap.size)
    (h : ∀ v' w', Buf E B w0 w' v' [] → wpList P ops Q rest (a.put o.dst v') w') : wpList P ops Q (o :: rest) a wr := by
  obtain ⟨i, hi, hz0, hz1, hz2⟩ := info_parts hE
  refine wpList_make_own wr hgd x y T ho B E i (.int .u8 0) 1 hT hi hz0 hz1 .i64 .i64 C n hx hy hC (by rw [hz2]; omega) (by unfold maxLen; omega) hB ?_
  intro w' hown hgr
  exact h _ w' ⟨hown, hbel.grown hgr hB (fun k hk => by cases hk), Nat.le_trans hB hgr.size⟩
end

/-- The cells of a block that was laid just now. -/
theorem cell_new1 (w : World) (x : Int) (t : TypeId) (h0 : 0 ≤ x) (h1 : x < 256) : ∀ j u, [toB x][j]? = some u → (w.alloc (.cells #[.int .u8 x] t)).cell? ⟨w.heap.size, j, none⟩ = some (.int .u8 (u.toNat : Int)) := by
  intro j u hu
  match j, hu with
  | 0, hu =>
    simp at hu
    subst hu
    rw [toB_toNat x h0 h1]
    exact World.cell?_alloc_new _ _ _ _
  | j + 1, hu => simp at hu

theorem cell_new2 (w : World) (x y : Int) (t : TypeId) (h0 : 0 ≤ x) (h1 : x < 256) (k0 : 0 ≤ y) (k1 : y < 256) : ∀ j u, [toB x, toB y][j]? = some u → (w.alloc (.cells #[.int .u8 x, .int .u8 y] t)).cell? ⟨w.heap.size, j, none⟩ = some (.int .u8 (u.toNat : Int)) := by
  intro j u hu
  match j, hu with
  | 0, hu =>
    simp at hu
    subst hu
    rw [toB_toNat x h0 h1]
    exact World.cell?_alloc_new _ _ _ _
  | 1, hu =>
    simp at hu
    subst hu
    rw [toB_toNat y k0 k1]
    exact World.cell?_alloc_new _ _ _ _
  | j + 2, hu => simp at hu

/-- A byte that was laid just now, as a string. -/
theorem conv_new1 {P : Program} {T E S : TypeId} (hT : P.underlying T = some (.slice E)) (hE : P.underlying E = some (.int .u8)) (hS : P.underlying S = some .string) (w : World) (x : Int) (h0 : 0 ≤ x) (h1 : x < 256) :
    (convert T S (.slice (some ⟨w.heap.size, 0, none⟩) 1 1)).run P (w.alloc (.cells #[.int .u8 x] E)) = .ok (.string ⟨[toB x].toArray⟩) (w.alloc (.cells #[.int .u8 x] E)) := by
  refine run_convert_bytes_back _ T S E ⟨w.heap.size, 0, none⟩ 1 [toB x] hT hE hS (fun j hj => ?_)
  have hadd : (⟨w.heap.size, 0, none⟩ : Addr).add j = ⟨w.heap.size, j, none⟩ := by unfold Addr.add; split <;> simp_all
  rw [hadd]
  exact cell_new1 w x E h0 h1 j _ (List.getElem?_eq_getElem hj)
theorem conv_new2 {P : Program} {T E S : TypeId} (hT : P.underlying T = some (.slice E)) (hE : P.underlying E = some (.int .u8)) (hS : P.underlying S = some .string) (w : World) (x y : Int) (h0 : 0 ≤ x) (h1 : x < 256) (k0 : 0 ≤ y) (k1 : y < 256) :
    (convert T S (.slice (some ⟨w.heap.size, 0, none⟩) 2 2)).run P (w.alloc (.cells #[.int .u8 x, .int .u8 y] E)) = .ok (.string ⟨[toB x, toB y].toArray⟩) (w.alloc (.cells #[.int .u8 x, .int .u8 y] E)) := by
  refine run_convert_bytes_back _ T S E ⟨w.heap.size, 0, none⟩ 2 [toB x, toB y] hT hE hS (fun j hj => ?_)
  have hadd : (⟨w.heap.size, 0, none⟩ : Addr).add j = ⟨w.heap.size, j, none⟩ := by unfold Addr.add; split <;> simp_all
  rw [hadd]
  exact cell_new2 w x y E h0 h1 k0 k1 j _ (List.getElem?_eq_getElem hj)
theorem conv_new1d {P : Program} {T E S : TypeId} (hT : P.underlying T = some (.slice E)) (hE : P.underlying E = some (.int .u8)) (hS : P.underlying S = some .string) (w : World) (x : Int) (h0 : 0 ≤ x) (h1 : x < 256) :
    (convert T S (.slice (some ⟨w.heap.size, 0, none⟩) 1 1)).run P (w.alloc (.cells #[.int .u8 x] E)).drew = .ok (.string ⟨[toB x].toArray⟩) (w.alloc (.cells #[.int .u8 x] E)).drew := by
  refine run_convert_bytes_back _ T S E ⟨w.heap.size, 0, none⟩ 1 [toB x] hT hE hS (fun j hj => ?_)
  have hadd : (⟨w.heap.size, 0, none⟩ : Addr).add j = ⟨w.heap.size, j, none⟩ := by unfold Addr.add; split <;> simp_all
  rw [hadd]
  exact cell_new1 w x E h0 h1 j _ (List.getElem?_eq_getElem hj)
theorem conv_new2d {P : Program} {T E S : TypeId} (hT : P.underlying T = some (.slice E)) (hE : P.underlying E = some (.int .u8)) (hS : P.underlying S = some .string) (w : World) (x y : Int) (h0 : 0 ≤ x) (h1 : x < 256) (k0 : 0 ≤ y) (k1 : y < 256) :
    (convert T S (.slice (some ⟨w.heap.size, 0, none⟩) 2 2)).run P (w.alloc (.cells #[.int .u8 x, .int .u8 y] E)).drew = .ok (.string ⟨[toB x, toB y].toArray⟩) (w.alloc (.cells #[.int .u8 x, .int .u8 y] E)).drew := by
  refine run_convert_bytes_back _ T S E ⟨w.heap.size, 0, none⟩ 2 [toB x, toB y] hT hE hS (fun j hj => ?_)
  have hadd : (⟨w.heap.size, 0, none⟩ : Addr).add j = ⟨w.heap.size, j, none⟩ := by unfold Addr.add; split <;> simp_all
  rw [hadd]
  exact cell_new2 w x y E h0 h1 k0 k1 j _ (List.getElem?_eq_getElem hj)
theorem wpAnyH_more {P : Program} {ops : Array Oper} {Q : Exit → Act → World → Prop} {md : Region.Mode} {S1 S2 : World → Prop} {fuel : Nat} {listed : Array Bool} {a : Act} {w : World}
    (h : ∀ w, S2 w → S1 w) (h2 : S2 w) (hk : S2 w → wpAnyH P md ops Q S2 fuel listed a w) : wpAnyH P md ops Q S1 fuel listed a w := by
  have key : ∀ (fuel : Nat) (listed : Array Bool) (a : Act) (w : World), wpAnyH P md ops Q S2 fuel listed a w → wpAnyH P md ops Q S1 fuel listed a w := by
    intro fuel
    induction fuel with
    | zero => exact fun _ _ _ h => h
    | succ n ih => exact fun listed a w h' => ⟨h'.1, fun i hi => wpOp_mono (fun a' w' h'' => ⟨h _ h''.1, ih _ _ _ h''.2⟩) (h'.2 i hi)⟩
  exact key _ _ _ _ (hk h2)
theorem conv_cell {P : Program} {T E S : TypeId} (hT : P.underlying T = some (.slice E)) (hE : P.underlying E = some (.int .u8)) (hS : P.underlying S = some .string) (w : World) (g : Nat) (x : Int) (h0 : 0 ≤ x) (h1 : x < 256)
    (h : w.cell? ⟨g, 0, none⟩ = some (.int .u8 x)) : (convert T S (.slice (some ⟨g, 0, none⟩) 1 1)).run P w = .ok (.string ⟨[toB x].toArray⟩) w := by
  refine run_convert_bytes_back w T S E ⟨g, 0, none⟩ 1 [toB x] hT hE hS (fun j hj => ?_)
  have hj0 : j = 0 := by simp at hj; omega
  subst hj0
  have hadd : (⟨g, 0, none⟩ : Addr).add 0 = ⟨g, 0, none⟩ := by unfold Addr.add; split <;> simp_all
  rw [hadd, h]
  show some (Value.int .u8 x) = some (Value.int .u8 ((toB x).toNat : Int))
  rw [toB_toNat x h0 h1]
/-- Strings as lists: the sum. -/
theorem add_str {P : Program} (w : World) (a b : List UInt8) (h : a.length + b.length ≤ 9223372036854775807) : (Op.stringOp .add ⟨a.toArray⟩ ⟨b.toArray⟩).run P w = .ok (.string ⟨(a ++ b).toArray⟩) w := by
  have := run_string_add_sum (P := P) w ⟨a.toArray⟩ ⟨b.toArray⟩ (by
    show a.toArray.size + b.toArray.size ≤ _
    simpa using h)
  rw [this, ByteArray.mk_append_mk]

theorem below_more {w w1 w2 : World} (h : Below w.heap.size w w1) (k : Below w1.heap.size w1 w2) : Below w.heap.size w w2 := h.trans (k.mono h.size)

theorem below_drawn {w w1 w2 : World} (h : Below w.heap.size w w1) (k : Below w1.drew.heap.size w1.drew w2) : Below w.heap.size w w2 := below_more (h.drew) k
theorem below_alloc {w w1 : World} (h : Below w.heap.size w w1) (o : Obj) : Below w.heap.size w (w1.alloc o) := h.alloc h.size o

/-- A slice of ints reads as xs. -/
def Ints (w : World) (A : Option Addr) (n : Nat) (xs : List Int) : Prop :=
  xs.length = n ∧ (0 < n → ∃ b off, A = some ⟨b, off, none⟩ ∧ ∀ j x, xs[j]? = some x → w.cell? ⟨b, off + j, none⟩ = some (.int .i64 x))
section
variable {w w' : World} {A : Option Addr} {n : Nat} {xs : List Int}
theorem Ints.len (h : Ints w A n xs) : xs.length = n := h.1
theorem Ints.at_ (h : Ints w A n xs) {k : Nat} (hk : k < n) : ∃ b off x, A = some ⟨b, off, none⟩ ∧ xs[k]? = some x ∧ w.cell? ⟨b, off + k, none⟩ = some (.int .i64 x) := by
  obtain ⟨hl, h⟩ := h
  obtain ⟨b, off, rfl, hc⟩ := h (by omega)
  have hlt : k < xs.length := by omega
  exact ⟨b, off, xs[k], rfl, List.getElem?_eq_getElem hlt, hc k _ (List.getElem?_eq_getElem hlt)⟩
theorem Ints.below (h : Ints w A n xs) (hb : Below w.heap.size w w') : Ints w' A n xs :=
  ⟨h.1, fun hn => by
    obtain ⟨b, off, e, hc⟩ := h.2 hn
    exact ⟨b, off, e, fun j x hx => (hb.cell (World.block_lt_of_cell? _ _ (hc j x hx))).trans (hc j x hx)⟩⟩
theorem ints_new1 (w : World) (x : Int) (t : TypeId) : Ints (w.alloc (.cells #[.int .i64 x] t)) (some ⟨w.heap.size, 0, none⟩) 1 [x] := by
  refine ⟨rfl, fun _ => ⟨_, _, rfl, fun j y hj => ?_⟩⟩
  match j, hj with
  | 0, hj => simp at hj; subst hj; exact World.cell?_alloc_new _ _ _ _
  | j + 1, hj => simp at hj
theorem ints_new2 (w : World) (x y : Int) (t : TypeId) : Ints (w.alloc (.cells #[.int .i64 x, .int .i64 y] t)) (some ⟨w.heap.size, 0, none⟩) 2 [x, y] := by
  refine ⟨rfl, fun _ => ⟨_, _, rfl, fun j z hj => ?_⟩⟩
  match j, hj with
  | 0, hj => simp at hj; subst hj; exact World.cell?_alloc_new _ _ _ _
  | 1, hj => simp at hj; subst hj; exact World.cell?_alloc_new _ _ _ _
  | j + 2, hj => simp at hj
theorem Ints.nil (A : Option Addr) : Ints w A 0 [] := ⟨rfl, fun h => by omega⟩
end

/-- The call's own row of ints. -/
def OwnI (E : TypeId) (B : Nat) (w0 wr : World) (v : Value) (xs : List Int) : Prop :=
  wr.ownsRow B E 1 v xs.length (xs.map (Value.int .i64)) ∧ Below B w0 wr ∧ B ≤ wr.heap.size
section
variable {E : TypeId} {B : Nat} {w0 wr : World} {v : Value} {xs : List Int}
theorem OwnI.below (h : OwnI E B w0 wr v xs) : Below B w0 wr := h.2.1
theorem OwnI.nil (h : Below B w0 wr) (hB : B ≤ wr.heap.size) : OwnI E B w0 wr (.slice none 0 0) [] :=
  ⟨World.ownsRow_nil _ _ _ _, h, hB⟩
theorem OwnI.form (h : OwnI E B w0 wr v xs) : ∃ A n c, v = .slice A n c ∧ Ints wr A n xs := by
  rcases h.1.2 with ⟨rfl, hn⟩ | ⟨g, cap, cur, rfl, _, hh, _, _, _, _⟩
  · exact ⟨none, 0, 0, rfl, hn, fun h => by omega⟩
  · refine ⟨_, _, _, rfl, rfl, fun _ => ⟨g, 0, rfl, fun j x hx => ?_⟩⟩
    have := h.1.cells (g := g) rfl j (.int .i64 x) (by simp [hx])
    have hadd : (⟨g, 0, none⟩ : Addr).add j = ⟨g, 0 + j, none⟩ := by unfold Addr.add; split <;> simp_all
    rw [hadd] at this
    exact this
theorem wpList_iapp {P : Program} {ops : Array Oper} {rest : List Oper} {o : Oper} {a : Act} {Q : Exit → Act → World → Prop} (hgd : o.guard = none) (s x : Operand) (T : TypeId)
    (ho : o.op = .call { callee := .builtin .append, args := #[s, x], argTypes := #[T, T] })
    (hT : P.underlying T = some (.slice E)) (hE : (P.info? E).map (fun i => (i.zero, i.size, i.bytes)) = some (some (.int .i64 0), 1, 8))
    (hs : a.eval s = v) (hb : OwnI E B w0 wr v xs) (A : Option Addr) (n c : Nat) (ys : List Int) (hx : a.eval x = .slice A n c) (hI : Ints wr A n ys) (hc0 : A = none → c = 0)
    (hl : xs.length + n ≤ 1000000000)
    (h : ∀ v' w', OwnI E B w0 w' v' (xs ++ ys) → wpList P ops Q rest (a.put o.dst v') w') : wpList P ops Q (o :: rest) a wr := by
  obtain ⟨i, hi, hz0, hz1, hz2⟩ := info_parts hE
  obtain ⟨hown, hbel, hB⟩ := hb
  have hyl := hI.len
  rcases A with _ | ad
  · have hn : n = 0 := by
      rcases Nat.eq_zero_or_pos n with h0 | h0
      · exact h0
      · obtain ⟨_, _, e, _⟩ := hI.2 h0
        cases e
    subst hn
    obtain rfl : ys = [] := List.eq_nil_of_length_eq_zero hyl
    obtain rfl := hc0 rfl
    exact wpList_append_own_none hgd s x T ho B E i 1 hT hi v xs.length _ hs hown hx (h v wr ⟨by simpa using hown, hbel, hB⟩)
  · subst hyl
    refine wpList_append_own wr hgd s x T ho B E i (.int .i64 0) 1 8 hT hi hz0 hz1 hz2 rfl (by decide) v xs.length _ hs hown ad ys.length c (ys.map (Value.int .i64)) hx (by simp) ?_ ?_ (by unfold maxLen; omega) (by omega) hB ?_
    · intro j u hu
      simp only [List.getElem?_map, Option.map_eq_some_iff] at hu
      obtain ⟨y, hy, rfl⟩ := hu
      have hlt := (List.getElem?_eq_some_iff.1 hy).1
      obtain ⟨b, off, e, hcc⟩ := hI.2 (by omega)
      cases e
      have hadd : (⟨b, off, none⟩ : Addr).add j = ⟨b, off + j, none⟩ := by unfold Addr.add; split <;> simp_all
      rw [hadd]
      exact hcc j y hy
    · intro u hu
      simp only [List.mem_map] at hu
      obtain ⟨y, _, rfl⟩ := hu
      rfl
    · intro v' w' hown' hgr _
      refine h v' w' ⟨?_, ?_, ?_⟩
      · rw [List.length_append, List.map_append]; exact hown'
      · exact hbel.grown hgr hB (fun k hk => (hown.lt k hk).1)
      · exact Nat.le_trans hB hgr.size
end

/-- A slice of strings reads as xs. -/
def Strs (w : World) (A : Option Addr) (n : Nat) (xs : List (List UInt8)) : Prop :=
  xs.length = n ∧ (0 < n → ∃ b off, A = some ⟨b, off, none⟩ ∧ ∀ j x, xs[j]? = some x → w.cell? ⟨b, off + j, none⟩ = some (.string ⟨x.toArray⟩))
section
variable {w w' : World} {A : Option Addr} {n : Nat} {xs : List (List UInt8)}
theorem Strs.len (h : Strs w A n xs) : xs.length = n := h.1
theorem Strs.at_ (h : Strs w A n xs) {k : Nat} (hk : k < n) : ∃ b off x, A = some ⟨b, off, none⟩ ∧ xs[k]? = some x ∧ w.cell? ⟨b, off + k, none⟩ = some (.string ⟨x.toArray⟩) := by
  obtain ⟨hl, h⟩ := h
  obtain ⟨b, off, rfl, hc⟩ := h (by omega)
  have hlt : k < xs.length := by omega
  exact ⟨b, off, xs[k], rfl, List.getElem?_eq_getElem hlt, hc k _ (List.getElem?_eq_getElem hlt)⟩
theorem Strs.below (h : Strs w A n xs) (hb : Below w.heap.size w w') : Strs w' A n xs :=
  ⟨h.1, fun hn => by
    obtain ⟨b, off, e, hc⟩ := h.2 hn
    exact ⟨b, off, e, fun j x hx => (hb.cell (World.block_lt_of_cell? _ _ (hc j x hx))).trans (hc j x hx)⟩⟩
theorem strs_new1 (w : World) (x : List UInt8) (t : TypeId) : Strs (w.alloc (.cells #[.string ⟨x.toArray⟩] t)) (some ⟨w.heap.size, 0, none⟩) 1 [x] := by
  refine ⟨rfl, fun _ => ⟨_, _, rfl, fun j y hj => ?_⟩⟩
  match j, hj with
  | 0, hj => simp at hj; subst hj; exact World.cell?_alloc_new _ _ _ _
  | j + 1, hj => simp at hj
theorem strs_new2 (w : World) (x y : List UInt8) (t : TypeId) : Strs (w.alloc (.cells #[.string ⟨x.toArray⟩, .string ⟨y.toArray⟩] t)) (some ⟨w.heap.size, 0, none⟩) 2 [x, y] := by
  refine ⟨rfl, fun _ => ⟨_, _, rfl, fun j z hj => ?_⟩⟩
  match j, hj with
  | 0, hj => simp at hj; subst hj; exact World.cell?_alloc_new _ _ _ _
  | 1, hj => simp at hj; subst hj; exact World.cell?_alloc_new _ _ _ _
  | j + 2, hj => simp at hj
theorem strs_new (w : World) (xs : List (List UInt8)) (t : TypeId) : Strs (w.alloc (.cells (xs.map fun x => Value.string ⟨x.toArray⟩).toArray t)) (some ⟨w.heap.size, 0, none⟩) xs.length xs := by
  refine ⟨rfl, fun _ => ⟨_, _, rfl, fun j y hj => ?_⟩⟩
  rw [Nat.zero_add, cell_of_row _ w.heap.size j _ t (0, 0) (heap_alloc_new w _)]
  simp [hj]
theorem Strs.at0 {g : Nat} (h : Strs w (some ⟨g, 0, none⟩) n xs) {k : Nat} (hk : k < n) : ∃ x, xs[k]? = some x ∧ w.cell? ⟨g, k, none⟩ = some (.string ⟨x.toArray⟩) := by
  obtain ⟨b, off, x, e, hx, hc⟩ := h.at_ hk
  cases e
  exact ⟨x, hx, by rwa [Nat.zero_add] at hc⟩
theorem Strs.nil (A : Option Addr) : Strs w A 0 [] := ⟨rfl, fun h => by omega⟩
end

section
open Go.ChangeShapes Go.WideShapes
variable {H : Type} {enc : TypeId × Value → H} {P : Program}

theorem trodAll_stays (hl : laidOutB P = true) {W W' : World} (hb : Below W.heap.size W W') : ∀ {ts : List TypeId} {vs : List Value} {ds : List (DataW H)} {ps : List MemPlace},
    (∀ t ∈ ts, P.readableRec t = true ∧ t < P.types.size) → DataW.TrodAll enc P W 0 (fun _ => true) true ts vs ds ps → (∀ x ∈ ps, x.block < W.heap.size) → DataW.TrodAll enc P W' 0 (fun b => decide (b < W.heap.size)) true ts vs ds ps
  | [], _, _, _, _, h, _ => by
    obtain ⟨rfl, rfl, rfl⟩ := trodAll_nil h
    exact trodAll_mk0
  | t :: ts, _, _, _, hr, h, hlt => by
    obtain ⟨v, vs1, d, ds1, a, b, rfl, rfl, rfl, h1, h2⟩ := trodAll_cons h
    obtain ⟨hr1, hr2⟩ := hr t (by simp)
    exact ⟨a, b, Below.trod hl hr1 hr2 h1 hb (fun x hx => hlt x (by simp [hx])), trodAll_stays hl hb (fun t ht => hr t (by simp [ht])) h2 (fun x hx => hlt x (by simp [hx])), rfl⟩


/-- A slice of ints that came in. -/
theorem open_Ints {t e : TypeId} {W : World} {base : Nat} {v : Value} {d : DataW H} {ps : List MemPlace} {sp : Nat → Bool} {hd : Bool} (ht : P.underlying t = some (.slice e)) (he : P.underlying e = some (.int .i64)) (hc : P.cellsOf e = 1)
    (hok : Value.okWide P W .any base t v) (h : DataW.Trod enc P W 0 sp hd t v d ps) : ∃ A n c xs, v = .slice A n c ∧ Ints W A n xs ∧ (A = none → c = 0) ∧ n ≤ maxLen := by
  obtain ⟨a0, len, cap, rfl⟩ := okWide_slice ht hok
  obtain ⟨fuel, hf⟩ := h
  rcases open_ints ht he hc hf with ⟨hcs, hx⟩ | ⟨a, len', cap', zs, hcs, _, hl, hm, hz, hx, hcell, hwz⟩
  · have e0 : Value.slice a0 len cap = .slice none 0 0 := by simpa [Value.cells] using hcs
    injection e0 with e1 e2 e3
    subst e1 e2 e3
    exact ⟨none, 0, 0, [], rfl, Ints.nil _, fun _ => rfl, by unfold maxLen; omega⟩
  · have e0 : Value.slice a0 len cap = .slice (some a) len' cap' := by simpa [Value.cells] using hcs
    injection e0 with e1 e2 e3
    subst e1 e2 e3
    have hzl : len ≤ zs.length := by rw [hz]; split <;> omega
    refine ⟨some a, len, cap, zs.take len, rfl, ⟨by simp; omega, fun hn => ?_⟩, fun h => (by cases h), by omega⟩
    obtain ⟨b, off, rfl, hcc⟩ := ints_at hcell (by omega)
    refine ⟨b, off, rfl, fun j x hj => ?_⟩
    rw [List.getElem?_take] at hj
    split at hj
    · have := hcc j (by omega)
      rw [this, List.getD, hj]; rfl
    · cases hj

/-- A slice of strings that came in. -/
theorem open_Strs {t e : TypeId} {W : World} {base : Nat} {v : Value} {d : DataW H} {ps : List MemPlace} {sp : Nat → Bool} {hd : Bool} (ht : P.underlying t = some (.slice e)) (he : P.underlying e = some .string) (hc : P.cellsOf e = 1)
    (hok : Value.okWide P W .any base t v) (h : DataW.Trod enc P W 0 sp hd t v d ps) : ∃ A n c xs, v = .slice A n c ∧ Strs W A n xs ∧ (A = none → c = 0) ∧ n ≤ maxLen ∧ Hid (∀ x ∈ xs, x.length ≤ 9223372036854775807) := by
  obtain ⟨a0, len, cap, rfl⟩ := okWide_slice ht hok
  obtain ⟨fuel, hf⟩ := h
  rcases open_strings ht he hc hf with ⟨hcs, hx⟩ | ⟨a, len', cap', ss, hcs, _, hl, hm, hz, hx, hcell, hwz⟩
  · have e0 : Value.slice a0 len cap = .slice none 0 0 := by simpa [Value.cells] using hcs
    injection e0 with e1 e2 e3
    subst e1 e2 e3
    exact ⟨none, 0, 0, [], rfl, Strs.nil _, fun _ => rfl, by unfold maxLen; omega, fun x hx => by cases hx⟩
  · have e0 : Value.slice a0 len cap = .slice (some a) len' cap' := by simpa [Value.cells] using hcs
    injection e0 with e1 e2 e3
    subst e1 e2 e3
    have hzl : len ≤ ss.length := by rw [hz]; split <;> omega
    refine ⟨some a, len, cap, (ss.take len).map fun s => s.data.toList, rfl, ⟨by simp; omega, fun hn => ?_⟩, fun h => (by cases h), by omega, ?_⟩
    · obtain ⟨b, off, spot⟩ := a
      have hspot : spot = none := by simpa [Addr.add] using World.cell?_spot (hcell 0 (by omega))
      subst hspot
      refine ⟨b, off, rfl, fun j x hj => ?_⟩
      rw [List.getElem?_map, List.getElem?_take] at hj
      split at hj
      · have := hcell j (by omega)
        rw [add_plain] at this
        rw [this, List.getD]
        cases hss : ss[j]? with
        | none => rw [hss] at hj; cases hj
        | some s =>
          rw [hss] at hj
          simp at hj
          subst hj
          simp
      · cases hj
    · show ∀ x ∈ _, _
      intro x hx
      rw [List.mem_map] at hx
      obtain ⟨s, hs, rfl⟩ := hx
      have := hwz s (List.mem_of_mem_take hs)
      unfold maxLen at this
      simpa using this

/-- The last step of a law: it answered true, and of what was there nothing has turned. -/
theorem law_post {f : Func} {s : ChangeSpec} {W W' : World} {args : Array Value} {ds gs : List (DataW H)} {before : List MemPlace} {tb : TypeId}
    (hl : laidOutB P = true) (hrb : (f.params.toList.all fun t => P.readableRec t && decide (t < P.types.size)) = true) (hv : s.vars = []) (hrt : f.resultTypes = #[tb]) (htb : P.underlying tb = some .bool)
    (hW : DataW.Whole enc P f.params.toList s.vars false W args.toList ds gs before)
    (hfn : s.fn H (ds ++ gs) = { results := [.lit (.bool true)], args := ds })
    (hb : Below W.heap.size W W') : s.post enc P f false true false false W args (.bool true) W' := by
  have hlt : ∀ p ∈ before, p.block < W.heap.size := fun p hp => hW.lt p hp
  have hr : ∀ t ∈ f.params.toList, P.readableRec t = true ∧ t < P.types.size := by
    intro t ht
    have := List.all_eq_true.1 hrb t ht
    simpa using this
  have hWk := hW
  obtain ⟨p, q, hA, hV, rfl, _, _⟩ := hWk
  rw [hv] at hV
  obtain ⟨rfl, rfl⟩ := trodVars_none hV
  refine ⟨ds, [], p ++ [], [], p, [], hW, ?_, ?_, ?_, ?_, fun h => by cases h⟩
  · rw [hrt, hfn]
    exact trodAll_cons_mk (shut_bool htb _) trodAll_mk0
  · rw [hfn]
    exact trodAll_stays hl hb hr hA (fun x hx => hlt x (by simp [hx]))
  · rw [hv, hfn]
    exact rfl
  · exact World.keptBut_mono (fun x f => f.elim) (hb.frame (fun _ => False))

end
/-- Short names for the walks of regions that draw their order. -/
theorem sA {α : Type} (xs : List α) (i : Nat) (a : α) : xs.toArray.setIfInBounds i a = (xs.set i a).toArray := List.setIfInBounds_toArray xs i a
theorem sB {α : Type} (x : α) (xs : List α) (a : α) : (x :: xs).set 0 a = a :: xs := List.set_cons_zero
theorem sC {α : Type} (x : α) (xs : List α) (i : Nat) (a : α) : (x :: xs).set (i + 1) a = x :: xs.set i a := List.set_cons_succ
theorem tkY {P : Program} {ops : Array Oper} {Q : Exit → Act → World → Prop} {md : Region.Mode} {S : World → Prop} (i : Nat) (oi : Oper) (v : Value) {fuel : Nat} {listed : Array Bool} {a : Act} {w : World} (hi : ops[i]? = some oi)
    (hs : Region.noSelect ops = true) (hf : Region.free md ops listed i = true) (hr : (Region.ready md ops listed).contains i = true)
    (hQ : ∀ c a w, Q (.panic c) (a.put oi.dst v) w → Q (.panic c) a w) (hw : Region.wanted oi (yielded ops a.tmps) = true) (hy : ∀ w, S w → (execOp a.eval oi).run P w = .ok (.value v) w) (hS : S w)
    (h : wpAnyH P md ops Q S fuel (listed.setIfInBounds i true) (a.put oi.dst v) w) : wpAnyH P md ops Q S (fuel + 1) listed a w :=
  wpAnyH_take hi hs hf hr hQ (Or.inl ⟨hw, hy⟩) hS h
theorem own_none : ownKnob Try.prog.godebug = none := by kernel_rfl
theorem cells_str : Try.prog.cellsOf 9 = 1 := by kernel_rfl
theorem cells_int : Try.prog.cellsOf 3 = 1 := by kernel_rfl
theorem laid_out : laidOutB Try.prog = true := by kernel_rfl
end Go.Proofs.Ytihgikhnkkmhhaa
