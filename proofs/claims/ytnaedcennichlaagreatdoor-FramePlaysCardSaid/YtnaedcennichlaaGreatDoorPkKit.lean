/-
  Packets as data: the words of all walks that carry one. (The declarations of the rows: by tools/genpk.py.)
-/
import Derived.Test.YtnaedcennichlaaGreatDoorKit
import Derived.Laws.StructEq
import Derived.Deep.MidRow
import Derived.Deep.WholeRow
import Derived.Laws.CopyRow
import Derived.Laws.CopyOwn
set_option linter.unusedSimpArgs false
set_option linter.unusedVariables false
namespace Go.Proofs.YtnaedcennichlaaGreatDoor
open Go.RowKit

/-- Each is one cell. -/
def ones (xs : Array Value) : Bool := xs.all fun v => v.oneCell'
/-- The cells of a block. -/
def rowAt (w : World) (g : Nat) : Array Value := match w.heap[g]? with
  | some (.cells c _ _) => c
  | _ => #[]
section
variable {w : World}
@[go_sem high] theorem rowAt_alloc (c : Array Value) (t : TypeId) (n : Nat) : rowAt (w.alloc (.cells c t)) n = if n = w.heap.size then c else rowAt w n := by
  unfold rowAt World.alloc
  simp only [Array.getElem?_push]
  by_cases h : n = w.heap.size
  · simp only [h, if_true]
  · simp only [h, if_false]
theorem rowAt_alloc_at (c : Array Value) (t : TypeId) (n : Nat) (hn : n = w.heap.size) : rowAt (w.alloc (.cells c t)) n = c := by
  subst hn
  unfold rowAt
  rw [heap_alloc_new]
@[go_sem] theorem rowAt_alloc_past (o : Obj) (n : Nat) (hn : n < w.heap.size) : rowAt (w.alloc o) n = rowAt w n := by
  unfold rowAt
  rw [Below.heap_alloc w o n hn]
@[go_sem] theorem rowAt_drew (n : Nat) : rowAt w.drew n = rowAt w n := by unfold rowAt World.drew; rfl
theorem rowAt_blk {g : Nat} {cs : Array Value} {t : TypeId} {fr : Nat × Nat} (h : w.heap[g]? = some (.cells cs t fr)) : rowAt w g = cs := by
  unfold rowAt; rw [h]
theorem rowAt_some {g : Nat} (h : 0 < (rowAt w g).size) : ∃ t fr, w.heap[g]? = some (.cells (rowAt w g) t fr) := by
  unfold rowAt at h ⊢
  split at h
  · rename_i c t fr hh
    exact ⟨t, fr, hh⟩
  · simp at h
/-- A struct out of a block. -/
theorem loadAt_row {P : Program} {ty : TypeId} {k : Nat} (hr : (P.underlying ty).map (fun d => d.isRow) = some true) (hi : (P.info? ty).map (·.size) = some k) (hk : 0 < k) (g o : Nat) (h : o + k ≤ (rowAt w g).size) :
    (Instr.loadAt ty (.pointer (some ⟨g, o, none⟩))).run P w = .ok (.agg ((rowAt w g).extract o (o + k))) w := by
  obtain ⟨d, hu, hd⟩ : ∃ d, P.underlying ty = some d ∧ d.isRow = true := by simpa using hr
  obtain ⟨t, fr, hh⟩ := rowAt_some (w := w) (g := g) (by omega)
  have := run_loadAt_mid (P := P) w g o ty ((rowAt w g).extract o (o + k)).toList d (World.rangeAt_of_block hh o k) hu hd (by rw [hi]; simp; omega)
  rw [Array.toArray_toList] at this
  exact this
theorem loadVar_row {P : Program} {ty : TypeId} {k : Nat} (hr : (P.underlying ty).map (fun d => d.isRow) = some true) (hi : (P.info? ty).map (·.size) = some k) (hk : 0 < k) (g o : Nat) (h : o + k ≤ (rowAt w g).size) :
    (loadVar ty ⟨g, o, none⟩).run P w = .ok (.agg ((rowAt w g).extract o (o + k))) w := by
  obtain ⟨d, hu, hd⟩ : ∃ d, P.underlying ty = some d ∧ d.isRow = true := by simpa using hr
  obtain ⟨t, fr, hh⟩ := rowAt_some (w := w) (g := g) (by omega)
  have := run_loadVar_mid (P := P) w g o ty ((rowAt w g).extract o (o + k)).toList d (World.rangeAt_of_block hh o k) hu hd (by rw [hi]; simp; omega)
  rw [Array.toArray_toList] at this
  exact this
@[go_sem high] theorem loadCells_rule {P : Program} (g o n : Nat) (h : o + n ≤ (rowAt w g).size) : (loadCellsFrom ⟨g, o, none⟩ 0 n #[]).run P w = .ok ((rowAt w g).extract o (o + n)) w := by
  rcases Nat.eq_zero_or_pos n with rfl | hn
  · simp [loadCellsFrom]; omega
  obtain ⟨t, fr, hh⟩ := rowAt_some (w := w) (g := g) (by omega)
  have := run_loadCells_list (P := P) w ⟨g, o, none⟩ ((rowAt w g).extract o (o + n)).toList (fun j v hv => by
    have hadd : (⟨g, o, none⟩ : Addr).add j = ⟨g, o + j, none⟩ := by unfold Addr.add; split <;> simp_all
    rw [hadd]
    exact World.rangeAt_of_block hh o n j v hv)
  rw [show ((rowAt w g).extract o (o + n)).toList.length = n by simp; omega, Array.toArray_toList] at this
  exact this
def isPtr : Value → Bool
  | .pointer (some ⟨_, _, none⟩) => true
  | _ => false
def ptrBlk : Value → Nat
  | .pointer (some a) => a.block
  | _ => 0
def ptrOff : Value → Nat
  | .pointer (some a) => a.off
  | _ => 0
@[go_sem] theorem isPtr_mk (g o : Nat) : isPtr (.pointer (some ⟨g, o, none⟩)) = true := by unfold isPtr; rfl
@[go_sem] theorem ptrBlk_mk (g o : Nat) : ptrBlk (.pointer (some ⟨g, o, none⟩)) = g := by unfold ptrBlk; rfl
@[go_sem] theorem ptrOff_mk (g o : Nat) : ptrOff (.pointer (some ⟨g, o, none⟩)) = o := by unfold ptrOff; rfl
theorem isPtr_some {v : Value} (h : isPtr v = true) : v = .pointer (some ⟨ptrBlk v, ptrOff v, none⟩) := by
  unfold isPtr at h
  split at h
  · rfl
  · cases h
/-- A struct is loaded: the whole operation. -/
theorem exec_load {P : Program} {ty : TypeId} {k : Nat} (hr : (P.underlying ty).map (fun d => d.isRow) = some true) (hi : (P.info? ty).map (·.size) = some k) (hk : 0 < k) {f : Operand → Value} {o : Oper} (x : Operand) (ho : o.op = .load ty x)
    (h1 : isPtr (f x) = true) (h2 : ptrOff (f x) + k ≤ (rowAt w (ptrBlk (f x))).size) :
    (execOp f o).run P w = .ok (.value (.agg ((rowAt w (ptrBlk (f x))).extract (ptrOff (f x)) (ptrOff (f x) + k)))) w := by
  have hl := loadVar_row (P := P) (w := w) hr hi hk (ptrBlk (f x)) (ptrOff (f x)) h2
  have hx := isPtr_some h1
  generalize hg : ptrBlk (f x) = g at *
  generalize hoff : ptrOff (f x) = off at *
  unfold execOp
  simp only [ho, hx, Instr.loadAt, Instr.sureAddr, Sem.run_bind, Sem.run_pure, Result.andThen_ok, hl]
/-- A function's struct result. -/
theorem ret_row {P : Program} {fn : Func} {R : Ending → World → Prop} {a : Act} {w : World} (s : Tmp) (t : TypeId) (k g : Nat) (xs : Array Value) (hres : fn.results = #[.cell s t]) (hr : (P.underlying t).map (fun d => d.isRow) = some true) (hi : (P.info? t).map (·.size) = some k)
    (hs : a.tmps.getD s undef = .pointer (some ⟨g, 0, none⟩)) (hrow : rowAt w g = xs) (hx : xs.size = k) (hk : 0 < k) (hd : a.defers = []) (hR : R (.returned (.agg xs)) w) : bodyPost P fn R .ret a w := by
  refine bodyPost_ret (v := .agg xs) ?_ hd hR
  have h := loadVar_row (w := w) hr hi hk g 0 (by rw [hrow]; omega)
  rw [hrow, Nat.zero_add, ← hx, Array.extract_size] at h
  simp only [results, hres, hs, List.mapM_toArray, List.mapM_cons, List.mapM_nil, Sem.run_bind, asAddr, Sem.run_pure, Result.andThen_ok, h]
  simp [h]
/-- May the block be written? -/
def freeB (w : World) (g : Nat) : Bool := match w.heap[g]? with
  | some (.cells _ _ fr) => fr == (0, 0)
  | _ => false
@[go_sem high] theorem freeB_alloc (c : Array Value) (t : TypeId) (n : Nat) : freeB (w.alloc (.cells c t)) n = if n = w.heap.size then true else freeB w n := by
  unfold freeB World.alloc
  simp only [Array.getElem?_push]
  by_cases h : n = w.heap.size
  · simp only [h, if_true]; rfl
  · simp only [h, if_false]
@[go_sem] theorem freeB_alloc_past (o : Obj) (n : Nat) (hn : n < w.heap.size) : freeB (w.alloc o) n = freeB w n := by
  unfold freeB
  rw [Below.heap_alloc w o n hn]
@[go_sem] theorem freeB_drew (n : Nat) : freeB w.drew n = freeB w n := by unfold freeB World.drew; rfl
@[go_sem] theorem setRow_alloc_at (c c' : Array Value) (t : TypeId) (n : Nat) (hn : n = w.heap.size) : (w.alloc (.cells c t)).setRow n c' = w.alloc (.cells c' t) := by
  subst hn
  exact World.setRow_alloc_new w c c' t
@[go_sem] theorem setRow_alloc_past (o : Obj) (n : Nat) (c' : Array Value) (hn : n < w.heap.size) : (w.alloc o).setRow n c' = (w.setRow n c').alloc o := by
  unfold World.setRow World.alloc
  congr 1
  apply Array.ext_getElem?
  intro k
  simp only [Array.getElem?_modify, Array.getElem?_push, Array.size_modify]
  by_cases hk : k = w.heap.size
  · subst hk
    simp [Nat.ne_of_lt hn]
  · simp [hk]
@[go_sem] theorem setRow_drew (n : Nat) (c' : Array Value) : w.drew.setRow n c' = (w.setRow n c').drew := by unfold World.setRow World.drew; rfl
/-- A row with others in its midst. -/
def spl (c : Array Value) (k : Nat) : List Value → Array Value
  | [] => c
  | v :: r => spl (c.setIfInBounds k v) (k + 1) r
theorem storeCells_row {P : Program} (g o : Nat) (t : TypeId) : ∀ (vs : List Value) (i : Nat) (cur : Array Value) (w : World), w.heap[g]? = some (.cells cur t (0, 0)) → o + i + vs.length ≤ cur.size → (∀ v ∈ vs, v.oneCell' = true) →
    (storeCells ⟨g, o, none⟩ vs i).run P w = .ok () (w.setRow g (spl cur (o + i) vs))
  | [], i, cur, w, hg, _, _ => by
    simp only [storeCells, spl, Sem.run_pure]
    rw [setRow_self w g cur t (0, 0) hg]
  | v :: rest, i, cur, w, hg, hl, h1 => by
    have hi : o + i < cur.size := by simp at hl; omega
    have hadd : (⟨g, o, none⟩ : Addr).add i = ⟨g, o + i, none⟩ := by unfold Addr.add; split <;> simp_all
    have hcell : w.cell? ⟨g, o + i, none⟩ = some cur[o + i] := by simp [World.cell?, hg, hi]
    have hfro : w.frozen? ⟨g, o + i, none⟩ = false := by simp [World.frozen?, hg]
    have hst : (store ((⟨g, o, none⟩ : Addr).add i) v).run P w = .ok () (w.setRow g (cur.setIfInBounds (o + i) v)) := by
      rw [hadd, run_store P w _ v _ (h1 v (by simp)), hcell]
      simp [hfro, setCell_eq_setRow w g (o + i) cur t (0, 0) v hg]
    have ih := storeCells_row (P := P) g o t rest (i + 1) (cur.setIfInBounds (o + i) v) (w.setRow g (cur.setIfInBounds (o + i) v)) (setRow_heap w g cur _ t _ hg) (by simp at hl ⊢; omega) (fun x hx => h1 x (by simp [hx]))
    simp only [storeCells, Sem.run_bind, hst, Result.andThen_ok, ih, setRow_setRow, spl]
    rfl
theorem freeB_some {g : Nat} (h : freeB w g = true) : ∃ t, w.heap[g]? = some (.cells (rowAt w g) t (0, 0)) := by
  unfold freeB at h
  unfold rowAt
  split at h
  · rename_i c t fr hh
    rw [hh]
    have : fr = (0, 0) := by simpa using h
    subst this
    exact ⟨t, rfl⟩
  · cases h
/-- A struct into a block. -/
@[go_sem] theorem storeCells_rule {P : Program} (g o : Nat) (xs : Array Value) (h1 : ones xs = true) (hf : freeB w g = true) (h : o + xs.size ≤ (rowAt w g).size) :
    (storeCells ⟨g, o, none⟩ xs.toList 0).run P w = .ok () (w.setRow g (spl (rowAt w g) o xs.toList)) := by
  obtain ⟨t, hh⟩ := freeB_some hf
  exact storeCells_row (P := P) g o t xs.toList 0 (rowAt w g) w hh (by simp; omega) (fun v hv => (Array.all_eq_true_iff_forall_mem.1 (show (xs.all fun v => v.oneCell') = true from h1)) v (by simpa using hv))
end
/-- A packet but its Subs. -/
structure Pk where
  ty : Int
  dup : Bool
  qos : Int
  ret : Bool
  id : Int
  topic : List UInt8
  load : List UInt8
  level : Int
  clean : Bool
  keep : Int
  client : List UInt8
  hasWill : Bool
  wt : List UInt8
  wl : List UInt8
  wq : Int
  wr : Bool
  hasUser : Bool
  hasPass : Bool
  user : List UInt8
  pass : List UInt8
  present : Bool
  code : Int
  codes : List UInt8
def Pk.s_ty (p : Pk) (x : Int) : Pk := { p with ty := x }
def Pk.s_dup (p : Pk) (x : Bool) : Pk := { p with dup := x }
def Pk.s_qos (p : Pk) (x : Int) : Pk := { p with qos := x }
def Pk.s_ret (p : Pk) (x : Bool) : Pk := { p with ret := x }
def Pk.s_id (p : Pk) (x : Int) : Pk := { p with id := x }
def Pk.s_topic (p : Pk) (x : List UInt8) : Pk := { p with topic := x }
def Pk.s_load (p : Pk) (x : List UInt8) : Pk := { p with load := x }
def Pk.s_level (p : Pk) (x : Int) : Pk := { p with level := x }
def Pk.s_clean (p : Pk) (x : Bool) : Pk := { p with clean := x }
def Pk.s_keep (p : Pk) (x : Int) : Pk := { p with keep := x }
def Pk.s_client (p : Pk) (x : List UInt8) : Pk := { p with client := x }
def Pk.s_hasWill (p : Pk) (x : Bool) : Pk := { p with hasWill := x }
def Pk.s_wt (p : Pk) (x : List UInt8) : Pk := { p with wt := x }
def Pk.s_wl (p : Pk) (x : List UInt8) : Pk := { p with wl := x }
def Pk.s_wq (p : Pk) (x : Int) : Pk := { p with wq := x }
def Pk.s_wr (p : Pk) (x : Bool) : Pk := { p with wr := x }
def Pk.s_hasUser (p : Pk) (x : Bool) : Pk := { p with hasUser := x }
def Pk.s_hasPass (p : Pk) (x : Bool) : Pk := { p with hasPass := x }
def Pk.s_user (p : Pk) (x : List UInt8) : Pk := { p with user := x }
def Pk.s_pass (p : Pk) (x : List UInt8) : Pk := { p with pass := x }
def Pk.s_present (p : Pk) (x : Bool) : Pk := { p with present := x }
def Pk.s_code (p : Pk) (x : Int) : Pk := { p with code := x }
def Pk.s_codes (p : Pk) (x : List UInt8) : Pk := { p with codes := x }
def Pk.s_will (p : Pk) (t l : List UInt8) (q : Int) (r : Bool) : Pk := { p with wt := t, wl := l, wq := q, wr := r }
def zPk : Pk := ⟨0, false, 0, false, 0, [], [], 0, false, 0, [], false, [], [], 0, false, false, false, [], [], false, 0, []⟩
/-- A packet's cells. -/
def PkC (p : Pk) (A : Option Addr) (n c : Nat) : Array Value := #[.int .u8 p.ty, .bool p.dup, .int .u8 p.qos, .bool p.ret, .int .u16 p.id, .string ⟨p.topic.toArray⟩, .string ⟨p.load.toArray⟩, .int .u8 p.level, .bool p.clean, .int .u16 p.keep, .string ⟨p.client.toArray⟩, .bool p.hasWill, .string ⟨p.wt.toArray⟩, .string ⟨p.wl.toArray⟩, .int .u8 p.wq, .bool p.wr, .bool p.hasUser, .bool p.hasPass, .string ⟨p.user.toArray⟩, .string ⟨p.pass.toArray⟩, .bool p.present, .int .u8 p.code, .slice A n c, .string ⟨p.codes.toArray⟩]
section
variable {p : Pk} {A : Option Addr} {n c : Nat}
@[go_sem, simp] theorem PkC_size : (PkC p A n c).size = 24 := by simp [PkC]
@[go_sem] theorem PkC_one : ones (PkC p A n c) = true := by simp [ones, PkC, Value.oneCell']
@[go_sem] theorem PkC_ne : (PkC p A n c = #[]) = False := by simp [PkC]
@[go_sem] theorem PkC_g0 (h : 0 < (PkC p A n c).size) : (PkC p A n c)[0]'h = .int .u8 p.ty := by simp [PkC]
@[go_sem high] theorem PkC_0 : (PkC p A n c)[0]? = some (.int .u8 p.ty) := by simp [PkC]
@[go_sem] theorem PkC_g1 (h : 1 < (PkC p A n c).size) : (PkC p A n c)[1]'h = .bool p.dup := by simp [PkC]
@[go_sem high] theorem PkC_1 : (PkC p A n c)[1]? = some (.bool p.dup) := by simp [PkC]
@[go_sem] theorem PkC_g2 (h : 2 < (PkC p A n c).size) : (PkC p A n c)[2]'h = .int .u8 p.qos := by simp [PkC]
@[go_sem high] theorem PkC_2 : (PkC p A n c)[2]? = some (.int .u8 p.qos) := by simp [PkC]
@[go_sem] theorem PkC_g3 (h : 3 < (PkC p A n c).size) : (PkC p A n c)[3]'h = .bool p.ret := by simp [PkC]
@[go_sem high] theorem PkC_3 : (PkC p A n c)[3]? = some (.bool p.ret) := by simp [PkC]
@[go_sem] theorem PkC_g4 (h : 4 < (PkC p A n c).size) : (PkC p A n c)[4]'h = .int .u16 p.id := by simp [PkC]
@[go_sem high] theorem PkC_4 : (PkC p A n c)[4]? = some (.int .u16 p.id) := by simp [PkC]
@[go_sem] theorem PkC_g5 (h : 5 < (PkC p A n c).size) : (PkC p A n c)[5]'h = .string ⟨p.topic.toArray⟩ := by simp [PkC]
@[go_sem high] theorem PkC_5 : (PkC p A n c)[5]? = some (.string ⟨p.topic.toArray⟩) := by simp [PkC]
@[go_sem] theorem PkC_g6 (h : 6 < (PkC p A n c).size) : (PkC p A n c)[6]'h = .string ⟨p.load.toArray⟩ := by simp [PkC]
@[go_sem high] theorem PkC_6 : (PkC p A n c)[6]? = some (.string ⟨p.load.toArray⟩) := by simp [PkC]
@[go_sem] theorem PkC_g7 (h : 7 < (PkC p A n c).size) : (PkC p A n c)[7]'h = .int .u8 p.level := by simp [PkC]
@[go_sem high] theorem PkC_7 : (PkC p A n c)[7]? = some (.int .u8 p.level) := by simp [PkC]
@[go_sem] theorem PkC_g8 (h : 8 < (PkC p A n c).size) : (PkC p A n c)[8]'h = .bool p.clean := by simp [PkC]
@[go_sem high] theorem PkC_8 : (PkC p A n c)[8]? = some (.bool p.clean) := by simp [PkC]
@[go_sem] theorem PkC_g9 (h : 9 < (PkC p A n c).size) : (PkC p A n c)[9]'h = .int .u16 p.keep := by simp [PkC]
@[go_sem high] theorem PkC_9 : (PkC p A n c)[9]? = some (.int .u16 p.keep) := by simp [PkC]
@[go_sem] theorem PkC_g10 (h : 10 < (PkC p A n c).size) : (PkC p A n c)[10]'h = .string ⟨p.client.toArray⟩ := by simp [PkC]
@[go_sem high] theorem PkC_10 : (PkC p A n c)[10]? = some (.string ⟨p.client.toArray⟩) := by simp [PkC]
@[go_sem] theorem PkC_g11 (h : 11 < (PkC p A n c).size) : (PkC p A n c)[11]'h = .bool p.hasWill := by simp [PkC]
@[go_sem high] theorem PkC_11 : (PkC p A n c)[11]? = some (.bool p.hasWill) := by simp [PkC]
@[go_sem] theorem PkC_g12 (h : 12 < (PkC p A n c).size) : (PkC p A n c)[12]'h = .string ⟨p.wt.toArray⟩ := by simp [PkC]
@[go_sem high] theorem PkC_12 : (PkC p A n c)[12]? = some (.string ⟨p.wt.toArray⟩) := by simp [PkC]
@[go_sem] theorem PkC_g13 (h : 13 < (PkC p A n c).size) : (PkC p A n c)[13]'h = .string ⟨p.wl.toArray⟩ := by simp [PkC]
@[go_sem high] theorem PkC_13 : (PkC p A n c)[13]? = some (.string ⟨p.wl.toArray⟩) := by simp [PkC]
@[go_sem] theorem PkC_g14 (h : 14 < (PkC p A n c).size) : (PkC p A n c)[14]'h = .int .u8 p.wq := by simp [PkC]
@[go_sem high] theorem PkC_14 : (PkC p A n c)[14]? = some (.int .u8 p.wq) := by simp [PkC]
@[go_sem] theorem PkC_g15 (h : 15 < (PkC p A n c).size) : (PkC p A n c)[15]'h = .bool p.wr := by simp [PkC]
@[go_sem high] theorem PkC_15 : (PkC p A n c)[15]? = some (.bool p.wr) := by simp [PkC]
@[go_sem] theorem PkC_g16 (h : 16 < (PkC p A n c).size) : (PkC p A n c)[16]'h = .bool p.hasUser := by simp [PkC]
@[go_sem high] theorem PkC_16 : (PkC p A n c)[16]? = some (.bool p.hasUser) := by simp [PkC]
@[go_sem] theorem PkC_g17 (h : 17 < (PkC p A n c).size) : (PkC p A n c)[17]'h = .bool p.hasPass := by simp [PkC]
@[go_sem high] theorem PkC_17 : (PkC p A n c)[17]? = some (.bool p.hasPass) := by simp [PkC]
@[go_sem] theorem PkC_g18 (h : 18 < (PkC p A n c).size) : (PkC p A n c)[18]'h = .string ⟨p.user.toArray⟩ := by simp [PkC]
@[go_sem high] theorem PkC_18 : (PkC p A n c)[18]? = some (.string ⟨p.user.toArray⟩) := by simp [PkC]
@[go_sem] theorem PkC_g19 (h : 19 < (PkC p A n c).size) : (PkC p A n c)[19]'h = .string ⟨p.pass.toArray⟩ := by simp [PkC]
@[go_sem high] theorem PkC_19 : (PkC p A n c)[19]? = some (.string ⟨p.pass.toArray⟩) := by simp [PkC]
@[go_sem] theorem PkC_g20 (h : 20 < (PkC p A n c).size) : (PkC p A n c)[20]'h = .bool p.present := by simp [PkC]
@[go_sem high] theorem PkC_20 : (PkC p A n c)[20]? = some (.bool p.present) := by simp [PkC]
@[go_sem] theorem PkC_g21 (h : 21 < (PkC p A n c).size) : (PkC p A n c)[21]'h = .int .u8 p.code := by simp [PkC]
@[go_sem high] theorem PkC_21 : (PkC p A n c)[21]? = some (.int .u8 p.code) := by simp [PkC]
@[go_sem] theorem PkC_g22 (h : 22 < (PkC p A n c).size) : (PkC p A n c)[22]'h = .slice A n c := by simp [PkC]
@[go_sem high] theorem PkC_22 : (PkC p A n c)[22]? = some (.slice A n c) := by simp [PkC]
@[go_sem] theorem PkC_g23 (h : 23 < (PkC p A n c).size) : (PkC p A n c)[23]'h = .string ⟨p.codes.toArray⟩ := by simp [PkC]
@[go_sem high] theorem PkC_23 : (PkC p A n c)[23]? = some (.string ⟨p.codes.toArray⟩) := by simp [PkC]
@[go_sem] theorem PkC_set0 (x : Int) : (PkC p A n c).setIfInBounds 0 (.int .u8 x) = PkC (p.s_ty x) A n c := by simp [PkC, Pk.s_ty]
@[go_sem] theorem PkC_set1 (x : Bool) : (PkC p A n c).setIfInBounds 1 (.bool x) = PkC (p.s_dup x) A n c := by simp [PkC, Pk.s_dup]
@[go_sem] theorem PkC_set2 (x : Int) : (PkC p A n c).setIfInBounds 2 (.int .u8 x) = PkC (p.s_qos x) A n c := by simp [PkC, Pk.s_qos]
@[go_sem] theorem PkC_set3 (x : Bool) : (PkC p A n c).setIfInBounds 3 (.bool x) = PkC (p.s_ret x) A n c := by simp [PkC, Pk.s_ret]
@[go_sem] theorem PkC_set4 (x : Int) : (PkC p A n c).setIfInBounds 4 (.int .u16 x) = PkC (p.s_id x) A n c := by simp [PkC, Pk.s_id]
@[go_sem] theorem PkC_set5 (x : List UInt8) : (PkC p A n c).setIfInBounds 5 (.string ⟨x.toArray⟩) = PkC (p.s_topic x) A n c := by simp [PkC, Pk.s_topic]
@[go_sem] theorem PkC_set6 (x : List UInt8) : (PkC p A n c).setIfInBounds 6 (.string ⟨x.toArray⟩) = PkC (p.s_load x) A n c := by simp [PkC, Pk.s_load]
@[go_sem] theorem PkC_set7 (x : Int) : (PkC p A n c).setIfInBounds 7 (.int .u8 x) = PkC (p.s_level x) A n c := by simp [PkC, Pk.s_level]
@[go_sem] theorem PkC_set8 (x : Bool) : (PkC p A n c).setIfInBounds 8 (.bool x) = PkC (p.s_clean x) A n c := by simp [PkC, Pk.s_clean]
@[go_sem] theorem PkC_set9 (x : Int) : (PkC p A n c).setIfInBounds 9 (.int .u16 x) = PkC (p.s_keep x) A n c := by simp [PkC, Pk.s_keep]
@[go_sem] theorem PkC_set10 (x : List UInt8) : (PkC p A n c).setIfInBounds 10 (.string ⟨x.toArray⟩) = PkC (p.s_client x) A n c := by simp [PkC, Pk.s_client]
@[go_sem] theorem PkC_set11 (x : Bool) : (PkC p A n c).setIfInBounds 11 (.bool x) = PkC (p.s_hasWill x) A n c := by simp [PkC, Pk.s_hasWill]
@[go_sem] theorem PkC_set12 (x : List UInt8) : (PkC p A n c).setIfInBounds 12 (.string ⟨x.toArray⟩) = PkC (p.s_wt x) A n c := by simp [PkC, Pk.s_wt]
@[go_sem] theorem PkC_set13 (x : List UInt8) : (PkC p A n c).setIfInBounds 13 (.string ⟨x.toArray⟩) = PkC (p.s_wl x) A n c := by simp [PkC, Pk.s_wl]
@[go_sem] theorem PkC_set14 (x : Int) : (PkC p A n c).setIfInBounds 14 (.int .u8 x) = PkC (p.s_wq x) A n c := by simp [PkC, Pk.s_wq]
@[go_sem] theorem PkC_set15 (x : Bool) : (PkC p A n c).setIfInBounds 15 (.bool x) = PkC (p.s_wr x) A n c := by simp [PkC, Pk.s_wr]
@[go_sem] theorem PkC_set16 (x : Bool) : (PkC p A n c).setIfInBounds 16 (.bool x) = PkC (p.s_hasUser x) A n c := by simp [PkC, Pk.s_hasUser]
@[go_sem] theorem PkC_set17 (x : Bool) : (PkC p A n c).setIfInBounds 17 (.bool x) = PkC (p.s_hasPass x) A n c := by simp [PkC, Pk.s_hasPass]
@[go_sem] theorem PkC_set18 (x : List UInt8) : (PkC p A n c).setIfInBounds 18 (.string ⟨x.toArray⟩) = PkC (p.s_user x) A n c := by simp [PkC, Pk.s_user]
@[go_sem] theorem PkC_set19 (x : List UInt8) : (PkC p A n c).setIfInBounds 19 (.string ⟨x.toArray⟩) = PkC (p.s_pass x) A n c := by simp [PkC, Pk.s_pass]
@[go_sem] theorem PkC_set20 (x : Bool) : (PkC p A n c).setIfInBounds 20 (.bool x) = PkC (p.s_present x) A n c := by simp [PkC, Pk.s_present]
@[go_sem] theorem PkC_set21 (x : Int) : (PkC p A n c).setIfInBounds 21 (.int .u8 x) = PkC (p.s_code x) A n c := by simp [PkC, Pk.s_code]
@[go_sem] theorem PkC_set22 (B : Option Addr) (m d : Nat) : (PkC p A n c).setIfInBounds 22 (.slice B m d) = PkC p B m d := by simp [PkC]
@[go_sem] theorem PkC_set23 (x : List UInt8) : (PkC p A n c).setIfInBounds 23 (.string ⟨x.toArray⟩) = PkC (p.s_codes x) A n c := by simp [PkC, Pk.s_codes]
@[go_sem] theorem PkC_all : (PkC p A n c).extract 0 24 = PkC p A n c := by simp [PkC]
end
@[go_sem] theorem PkC_fold (x_ty : Int) (x_dup : Bool) (x_qos : Int) (x_ret : Bool) (x_id : Int) (x_topic : List UInt8) (x_load : List UInt8) (x_level : Int) (x_clean : Bool) (x_keep : Int) (x_client : List UInt8) (x_hasWill : Bool) (x_wt : List UInt8) (x_wl : List UInt8) (x_wq : Int) (x_wr : Bool) (x_hasUser : Bool) (x_hasPass : Bool) (x_user : List UInt8) (x_pass : List UInt8) (x_present : Bool) (x_code : Int) (x_codes : List UInt8) (A : Option Addr) (n c : Nat) : (#[.int .u8 x_ty, .bool x_dup, .int .u8 x_qos, .bool x_ret, .int .u16 x_id, .string ⟨x_topic.toArray⟩, .string ⟨x_load.toArray⟩, .int .u8 x_level, .bool x_clean, .int .u16 x_keep, .string ⟨x_client.toArray⟩, .bool x_hasWill, .string ⟨x_wt.toArray⟩, .string ⟨x_wl.toArray⟩, .int .u8 x_wq, .bool x_wr, .bool x_hasUser, .bool x_hasPass, .string ⟨x_user.toArray⟩, .string ⟨x_pass.toArray⟩, .bool x_present, .int .u8 x_code, .slice A n c, .string ⟨x_codes.toArray⟩] : Array Value) = PkC ⟨x_ty, x_dup, x_qos, x_ret, x_id, x_topic, x_load, x_level, x_clean, x_keep, x_client, x_hasWill, x_wt, x_wl, x_wq, x_wr, x_hasUser, x_hasPass, x_user, x_pass, x_present, x_code, x_codes⟩ A n c := by rw [PkC]
/-- The cells of a packet's scalars. -/
def ScC (p : Pk) : Array Value := #[.int .u8 p.ty, .bool p.dup, .int .u8 p.qos, .bool p.ret, .int .u16 p.id, .string ⟨p.topic.toArray⟩, .string ⟨p.load.toArray⟩, .int .u8 p.level, .bool p.clean, .int .u16 p.keep, .string ⟨p.client.toArray⟩, .bool p.hasWill, .string ⟨p.wt.toArray⟩, .string ⟨p.wl.toArray⟩, .int .u8 p.wq, .bool p.wr, .bool p.hasUser, .bool p.hasPass, .string ⟨p.user.toArray⟩, .string ⟨p.pass.toArray⟩, .bool p.present, .int .u8 p.code, .string ⟨p.codes.toArray⟩]
section
variable {p : Pk}
@[go_sem, simp] theorem ScC_size : (ScC p).size = 23 := by simp [ScC]
@[go_sem] theorem ScC_one : ones (ScC p) = true := by simp [ones, ScC, Value.oneCell']
@[go_sem] theorem ScC_ne : (ScC p = #[]) = False := by simp [ScC]
@[go_sem] theorem ScC_g0 (h : 0 < (ScC p).size) : (ScC p)[0]'h = .int .u8 p.ty := by simp [ScC]
@[go_sem high] theorem ScC_0 : (ScC p)[0]? = some (.int .u8 p.ty) := by simp [ScC]
@[go_sem] theorem ScC_g1 (h : 1 < (ScC p).size) : (ScC p)[1]'h = .bool p.dup := by simp [ScC]
@[go_sem high] theorem ScC_1 : (ScC p)[1]? = some (.bool p.dup) := by simp [ScC]
@[go_sem] theorem ScC_g2 (h : 2 < (ScC p).size) : (ScC p)[2]'h = .int .u8 p.qos := by simp [ScC]
@[go_sem high] theorem ScC_2 : (ScC p)[2]? = some (.int .u8 p.qos) := by simp [ScC]
@[go_sem] theorem ScC_g3 (h : 3 < (ScC p).size) : (ScC p)[3]'h = .bool p.ret := by simp [ScC]
@[go_sem high] theorem ScC_3 : (ScC p)[3]? = some (.bool p.ret) := by simp [ScC]
@[go_sem] theorem ScC_g4 (h : 4 < (ScC p).size) : (ScC p)[4]'h = .int .u16 p.id := by simp [ScC]
@[go_sem high] theorem ScC_4 : (ScC p)[4]? = some (.int .u16 p.id) := by simp [ScC]
@[go_sem] theorem ScC_g5 (h : 5 < (ScC p).size) : (ScC p)[5]'h = .string ⟨p.topic.toArray⟩ := by simp [ScC]
@[go_sem high] theorem ScC_5 : (ScC p)[5]? = some (.string ⟨p.topic.toArray⟩) := by simp [ScC]
@[go_sem] theorem ScC_g6 (h : 6 < (ScC p).size) : (ScC p)[6]'h = .string ⟨p.load.toArray⟩ := by simp [ScC]
@[go_sem high] theorem ScC_6 : (ScC p)[6]? = some (.string ⟨p.load.toArray⟩) := by simp [ScC]
@[go_sem] theorem ScC_g7 (h : 7 < (ScC p).size) : (ScC p)[7]'h = .int .u8 p.level := by simp [ScC]
@[go_sem high] theorem ScC_7 : (ScC p)[7]? = some (.int .u8 p.level) := by simp [ScC]
@[go_sem] theorem ScC_g8 (h : 8 < (ScC p).size) : (ScC p)[8]'h = .bool p.clean := by simp [ScC]
@[go_sem high] theorem ScC_8 : (ScC p)[8]? = some (.bool p.clean) := by simp [ScC]
@[go_sem] theorem ScC_g9 (h : 9 < (ScC p).size) : (ScC p)[9]'h = .int .u16 p.keep := by simp [ScC]
@[go_sem high] theorem ScC_9 : (ScC p)[9]? = some (.int .u16 p.keep) := by simp [ScC]
@[go_sem] theorem ScC_g10 (h : 10 < (ScC p).size) : (ScC p)[10]'h = .string ⟨p.client.toArray⟩ := by simp [ScC]
@[go_sem high] theorem ScC_10 : (ScC p)[10]? = some (.string ⟨p.client.toArray⟩) := by simp [ScC]
@[go_sem] theorem ScC_g11 (h : 11 < (ScC p).size) : (ScC p)[11]'h = .bool p.hasWill := by simp [ScC]
@[go_sem high] theorem ScC_11 : (ScC p)[11]? = some (.bool p.hasWill) := by simp [ScC]
@[go_sem] theorem ScC_g12 (h : 12 < (ScC p).size) : (ScC p)[12]'h = .string ⟨p.wt.toArray⟩ := by simp [ScC]
@[go_sem high] theorem ScC_12 : (ScC p)[12]? = some (.string ⟨p.wt.toArray⟩) := by simp [ScC]
@[go_sem] theorem ScC_g13 (h : 13 < (ScC p).size) : (ScC p)[13]'h = .string ⟨p.wl.toArray⟩ := by simp [ScC]
@[go_sem high] theorem ScC_13 : (ScC p)[13]? = some (.string ⟨p.wl.toArray⟩) := by simp [ScC]
@[go_sem] theorem ScC_g14 (h : 14 < (ScC p).size) : (ScC p)[14]'h = .int .u8 p.wq := by simp [ScC]
@[go_sem high] theorem ScC_14 : (ScC p)[14]? = some (.int .u8 p.wq) := by simp [ScC]
@[go_sem] theorem ScC_g15 (h : 15 < (ScC p).size) : (ScC p)[15]'h = .bool p.wr := by simp [ScC]
@[go_sem high] theorem ScC_15 : (ScC p)[15]? = some (.bool p.wr) := by simp [ScC]
@[go_sem] theorem ScC_g16 (h : 16 < (ScC p).size) : (ScC p)[16]'h = .bool p.hasUser := by simp [ScC]
@[go_sem high] theorem ScC_16 : (ScC p)[16]? = some (.bool p.hasUser) := by simp [ScC]
@[go_sem] theorem ScC_g17 (h : 17 < (ScC p).size) : (ScC p)[17]'h = .bool p.hasPass := by simp [ScC]
@[go_sem high] theorem ScC_17 : (ScC p)[17]? = some (.bool p.hasPass) := by simp [ScC]
@[go_sem] theorem ScC_g18 (h : 18 < (ScC p).size) : (ScC p)[18]'h = .string ⟨p.user.toArray⟩ := by simp [ScC]
@[go_sem high] theorem ScC_18 : (ScC p)[18]? = some (.string ⟨p.user.toArray⟩) := by simp [ScC]
@[go_sem] theorem ScC_g19 (h : 19 < (ScC p).size) : (ScC p)[19]'h = .string ⟨p.pass.toArray⟩ := by simp [ScC]
@[go_sem high] theorem ScC_19 : (ScC p)[19]? = some (.string ⟨p.pass.toArray⟩) := by simp [ScC]
@[go_sem] theorem ScC_g20 (h : 20 < (ScC p).size) : (ScC p)[20]'h = .bool p.present := by simp [ScC]
@[go_sem high] theorem ScC_20 : (ScC p)[20]? = some (.bool p.present) := by simp [ScC]
@[go_sem] theorem ScC_g21 (h : 21 < (ScC p).size) : (ScC p)[21]'h = .int .u8 p.code := by simp [ScC]
@[go_sem high] theorem ScC_21 : (ScC p)[21]? = some (.int .u8 p.code) := by simp [ScC]
@[go_sem] theorem ScC_g22 (h : 22 < (ScC p).size) : (ScC p)[22]'h = .string ⟨p.codes.toArray⟩ := by simp [ScC]
@[go_sem high] theorem ScC_22 : (ScC p)[22]? = some (.string ⟨p.codes.toArray⟩) := by simp [ScC]
@[go_sem] theorem ScC_all : (ScC p).extract 0 23 = ScC p := by simp [ScC]
end
@[go_sem] theorem ScC_fold (x_ty : Int) (x_dup : Bool) (x_qos : Int) (x_ret : Bool) (x_id : Int) (x_topic : List UInt8) (x_load : List UInt8) (x_level : Int) (x_clean : Bool) (x_keep : Int) (x_client : List UInt8) (x_hasWill : Bool) (x_wt : List UInt8) (x_wl : List UInt8) (x_wq : Int) (x_wr : Bool) (x_hasUser : Bool) (x_hasPass : Bool) (x_user : List UInt8) (x_pass : List UInt8) (x_present : Bool) (x_code : Int) (x_codes : List UInt8) : (#[.int .u8 x_ty, .bool x_dup, .int .u8 x_qos, .bool x_ret, .int .u16 x_id, .string ⟨x_topic.toArray⟩, .string ⟨x_load.toArray⟩, .int .u8 x_level, .bool x_clean, .int .u16 x_keep, .string ⟨x_client.toArray⟩, .bool x_hasWill, .string ⟨x_wt.toArray⟩, .string ⟨x_wl.toArray⟩, .int .u8 x_wq, .bool x_wr, .bool x_hasUser, .bool x_hasPass, .string ⟨x_user.toArray⟩, .string ⟨x_pass.toArray⟩, .bool x_present, .int .u8 x_code, .string ⟨x_codes.toArray⟩] : Array Value) = ScC ⟨x_ty, x_dup, x_qos, x_ret, x_id, x_topic, x_load, x_level, x_clean, x_keep, x_client, x_hasWill, x_wt, x_wl, x_wq, x_wr, x_hasUser, x_hasPass, x_user, x_pass, x_present, x_code, x_codes⟩ := by rw [ScC]
/-- The cells of a packet that is taken apart. -/
def TkC (r : Bool) (b : Int) (p : Pk) (A : Option Addr) (n c : Nat) : Array Value := #[.bool r, .int .i64 b, .int .u8 p.ty, .bool p.dup, .int .u8 p.qos, .bool p.ret, .int .u16 p.id, .string ⟨p.topic.toArray⟩, .string ⟨p.load.toArray⟩, .int .u8 p.level, .bool p.clean, .int .u16 p.keep, .string ⟨p.client.toArray⟩, .bool p.hasWill, .string ⟨p.wt.toArray⟩, .string ⟨p.wl.toArray⟩, .int .u8 p.wq, .bool p.wr, .bool p.hasUser, .bool p.hasPass, .string ⟨p.user.toArray⟩, .string ⟨p.pass.toArray⟩, .bool p.present, .int .u8 p.code, .slice A n c, .string ⟨p.codes.toArray⟩]
section
variable {r : Bool} {b : Int} {p : Pk} {A : Option Addr} {n c : Nat}
@[go_sem, simp] theorem TkC_size : (TkC r b p A n c).size = 26 := by simp [TkC]
@[go_sem] theorem TkC_one : ones (TkC r b p A n c) = true := by simp [ones, TkC, Value.oneCell']
@[go_sem] theorem TkC_ne : (TkC r b p A n c = #[]) = False := by simp [TkC]
@[go_sem] theorem TkC_g0 (h : 0 < (TkC r b p A n c).size) : (TkC r b p A n c)[0]'h = .bool r := by simp [TkC]
@[go_sem high] theorem TkC_0 : (TkC r b p A n c)[0]? = some (.bool r) := by simp [TkC]
@[go_sem] theorem TkC_g1 (h : 1 < (TkC r b p A n c).size) : (TkC r b p A n c)[1]'h = .int .i64 b := by simp [TkC]
@[go_sem high] theorem TkC_1 : (TkC r b p A n c)[1]? = some (.int .i64 b) := by simp [TkC]
@[go_sem] theorem TkC_g2 (h : 2 < (TkC r b p A n c).size) : (TkC r b p A n c)[2]'h = .int .u8 p.ty := by simp [TkC]
@[go_sem high] theorem TkC_2 : (TkC r b p A n c)[2]? = some (.int .u8 p.ty) := by simp [TkC]
@[go_sem] theorem TkC_g3 (h : 3 < (TkC r b p A n c).size) : (TkC r b p A n c)[3]'h = .bool p.dup := by simp [TkC]
@[go_sem high] theorem TkC_3 : (TkC r b p A n c)[3]? = some (.bool p.dup) := by simp [TkC]
@[go_sem] theorem TkC_g4 (h : 4 < (TkC r b p A n c).size) : (TkC r b p A n c)[4]'h = .int .u8 p.qos := by simp [TkC]
@[go_sem high] theorem TkC_4 : (TkC r b p A n c)[4]? = some (.int .u8 p.qos) := by simp [TkC]
@[go_sem] theorem TkC_g5 (h : 5 < (TkC r b p A n c).size) : (TkC r b p A n c)[5]'h = .bool p.ret := by simp [TkC]
@[go_sem high] theorem TkC_5 : (TkC r b p A n c)[5]? = some (.bool p.ret) := by simp [TkC]
@[go_sem] theorem TkC_g6 (h : 6 < (TkC r b p A n c).size) : (TkC r b p A n c)[6]'h = .int .u16 p.id := by simp [TkC]
@[go_sem high] theorem TkC_6 : (TkC r b p A n c)[6]? = some (.int .u16 p.id) := by simp [TkC]
@[go_sem] theorem TkC_g7 (h : 7 < (TkC r b p A n c).size) : (TkC r b p A n c)[7]'h = .string ⟨p.topic.toArray⟩ := by simp [TkC]
@[go_sem high] theorem TkC_7 : (TkC r b p A n c)[7]? = some (.string ⟨p.topic.toArray⟩) := by simp [TkC]
@[go_sem] theorem TkC_g8 (h : 8 < (TkC r b p A n c).size) : (TkC r b p A n c)[8]'h = .string ⟨p.load.toArray⟩ := by simp [TkC]
@[go_sem high] theorem TkC_8 : (TkC r b p A n c)[8]? = some (.string ⟨p.load.toArray⟩) := by simp [TkC]
@[go_sem] theorem TkC_g9 (h : 9 < (TkC r b p A n c).size) : (TkC r b p A n c)[9]'h = .int .u8 p.level := by simp [TkC]
@[go_sem high] theorem TkC_9 : (TkC r b p A n c)[9]? = some (.int .u8 p.level) := by simp [TkC]
@[go_sem] theorem TkC_g10 (h : 10 < (TkC r b p A n c).size) : (TkC r b p A n c)[10]'h = .bool p.clean := by simp [TkC]
@[go_sem high] theorem TkC_10 : (TkC r b p A n c)[10]? = some (.bool p.clean) := by simp [TkC]
@[go_sem] theorem TkC_g11 (h : 11 < (TkC r b p A n c).size) : (TkC r b p A n c)[11]'h = .int .u16 p.keep := by simp [TkC]
@[go_sem high] theorem TkC_11 : (TkC r b p A n c)[11]? = some (.int .u16 p.keep) := by simp [TkC]
@[go_sem] theorem TkC_g12 (h : 12 < (TkC r b p A n c).size) : (TkC r b p A n c)[12]'h = .string ⟨p.client.toArray⟩ := by simp [TkC]
@[go_sem high] theorem TkC_12 : (TkC r b p A n c)[12]? = some (.string ⟨p.client.toArray⟩) := by simp [TkC]
@[go_sem] theorem TkC_g13 (h : 13 < (TkC r b p A n c).size) : (TkC r b p A n c)[13]'h = .bool p.hasWill := by simp [TkC]
@[go_sem high] theorem TkC_13 : (TkC r b p A n c)[13]? = some (.bool p.hasWill) := by simp [TkC]
@[go_sem] theorem TkC_g14 (h : 14 < (TkC r b p A n c).size) : (TkC r b p A n c)[14]'h = .string ⟨p.wt.toArray⟩ := by simp [TkC]
@[go_sem high] theorem TkC_14 : (TkC r b p A n c)[14]? = some (.string ⟨p.wt.toArray⟩) := by simp [TkC]
@[go_sem] theorem TkC_g15 (h : 15 < (TkC r b p A n c).size) : (TkC r b p A n c)[15]'h = .string ⟨p.wl.toArray⟩ := by simp [TkC]
@[go_sem high] theorem TkC_15 : (TkC r b p A n c)[15]? = some (.string ⟨p.wl.toArray⟩) := by simp [TkC]
@[go_sem] theorem TkC_g16 (h : 16 < (TkC r b p A n c).size) : (TkC r b p A n c)[16]'h = .int .u8 p.wq := by simp [TkC]
@[go_sem high] theorem TkC_16 : (TkC r b p A n c)[16]? = some (.int .u8 p.wq) := by simp [TkC]
@[go_sem] theorem TkC_g17 (h : 17 < (TkC r b p A n c).size) : (TkC r b p A n c)[17]'h = .bool p.wr := by simp [TkC]
@[go_sem high] theorem TkC_17 : (TkC r b p A n c)[17]? = some (.bool p.wr) := by simp [TkC]
@[go_sem] theorem TkC_g18 (h : 18 < (TkC r b p A n c).size) : (TkC r b p A n c)[18]'h = .bool p.hasUser := by simp [TkC]
@[go_sem high] theorem TkC_18 : (TkC r b p A n c)[18]? = some (.bool p.hasUser) := by simp [TkC]
@[go_sem] theorem TkC_g19 (h : 19 < (TkC r b p A n c).size) : (TkC r b p A n c)[19]'h = .bool p.hasPass := by simp [TkC]
@[go_sem high] theorem TkC_19 : (TkC r b p A n c)[19]? = some (.bool p.hasPass) := by simp [TkC]
@[go_sem] theorem TkC_g20 (h : 20 < (TkC r b p A n c).size) : (TkC r b p A n c)[20]'h = .string ⟨p.user.toArray⟩ := by simp [TkC]
@[go_sem high] theorem TkC_20 : (TkC r b p A n c)[20]? = some (.string ⟨p.user.toArray⟩) := by simp [TkC]
@[go_sem] theorem TkC_g21 (h : 21 < (TkC r b p A n c).size) : (TkC r b p A n c)[21]'h = .string ⟨p.pass.toArray⟩ := by simp [TkC]
@[go_sem high] theorem TkC_21 : (TkC r b p A n c)[21]? = some (.string ⟨p.pass.toArray⟩) := by simp [TkC]
@[go_sem] theorem TkC_g22 (h : 22 < (TkC r b p A n c).size) : (TkC r b p A n c)[22]'h = .bool p.present := by simp [TkC]
@[go_sem high] theorem TkC_22 : (TkC r b p A n c)[22]? = some (.bool p.present) := by simp [TkC]
@[go_sem] theorem TkC_g23 (h : 23 < (TkC r b p A n c).size) : (TkC r b p A n c)[23]'h = .int .u8 p.code := by simp [TkC]
@[go_sem high] theorem TkC_23 : (TkC r b p A n c)[23]? = some (.int .u8 p.code) := by simp [TkC]
@[go_sem] theorem TkC_g24 (h : 24 < (TkC r b p A n c).size) : (TkC r b p A n c)[24]'h = .slice A n c := by simp [TkC]
@[go_sem high] theorem TkC_24 : (TkC r b p A n c)[24]? = some (.slice A n c) := by simp [TkC]
@[go_sem] theorem TkC_g25 (h : 25 < (TkC r b p A n c).size) : (TkC r b p A n c)[25]'h = .string ⟨p.codes.toArray⟩ := by simp [TkC]
@[go_sem high] theorem TkC_25 : (TkC r b p A n c)[25]? = some (.string ⟨p.codes.toArray⟩) := by simp [TkC]
@[go_sem] theorem TkC_set0 (x : Bool) : (TkC r b p A n c).setIfInBounds 0 (.bool x) = TkC x b p A n c := by simp [TkC]
@[go_sem] theorem TkC_set1 (x : Int) : (TkC r b p A n c).setIfInBounds 1 (.int .i64 x) = TkC r x p A n c := by simp [TkC]
@[go_sem] theorem TkC_set2 (x : Int) : (TkC r b p A n c).setIfInBounds 2 (.int .u8 x) = TkC r b (p.s_ty x) A n c := by simp [TkC, Pk.s_ty]
@[go_sem] theorem TkC_set3 (x : Bool) : (TkC r b p A n c).setIfInBounds 3 (.bool x) = TkC r b (p.s_dup x) A n c := by simp [TkC, Pk.s_dup]
@[go_sem] theorem TkC_set4 (x : Int) : (TkC r b p A n c).setIfInBounds 4 (.int .u8 x) = TkC r b (p.s_qos x) A n c := by simp [TkC, Pk.s_qos]
@[go_sem] theorem TkC_set5 (x : Bool) : (TkC r b p A n c).setIfInBounds 5 (.bool x) = TkC r b (p.s_ret x) A n c := by simp [TkC, Pk.s_ret]
@[go_sem] theorem TkC_set6 (x : Int) : (TkC r b p A n c).setIfInBounds 6 (.int .u16 x) = TkC r b (p.s_id x) A n c := by simp [TkC, Pk.s_id]
@[go_sem] theorem TkC_set7 (x : List UInt8) : (TkC r b p A n c).setIfInBounds 7 (.string ⟨x.toArray⟩) = TkC r b (p.s_topic x) A n c := by simp [TkC, Pk.s_topic]
@[go_sem] theorem TkC_set8 (x : List UInt8) : (TkC r b p A n c).setIfInBounds 8 (.string ⟨x.toArray⟩) = TkC r b (p.s_load x) A n c := by simp [TkC, Pk.s_load]
@[go_sem] theorem TkC_set9 (x : Int) : (TkC r b p A n c).setIfInBounds 9 (.int .u8 x) = TkC r b (p.s_level x) A n c := by simp [TkC, Pk.s_level]
@[go_sem] theorem TkC_set10 (x : Bool) : (TkC r b p A n c).setIfInBounds 10 (.bool x) = TkC r b (p.s_clean x) A n c := by simp [TkC, Pk.s_clean]
@[go_sem] theorem TkC_set11 (x : Int) : (TkC r b p A n c).setIfInBounds 11 (.int .u16 x) = TkC r b (p.s_keep x) A n c := by simp [TkC, Pk.s_keep]
@[go_sem] theorem TkC_set12 (x : List UInt8) : (TkC r b p A n c).setIfInBounds 12 (.string ⟨x.toArray⟩) = TkC r b (p.s_client x) A n c := by simp [TkC, Pk.s_client]
@[go_sem] theorem TkC_set13 (x : Bool) : (TkC r b p A n c).setIfInBounds 13 (.bool x) = TkC r b (p.s_hasWill x) A n c := by simp [TkC, Pk.s_hasWill]
@[go_sem] theorem TkC_set14 (x : List UInt8) : (TkC r b p A n c).setIfInBounds 14 (.string ⟨x.toArray⟩) = TkC r b (p.s_wt x) A n c := by simp [TkC, Pk.s_wt]
@[go_sem] theorem TkC_set15 (x : List UInt8) : (TkC r b p A n c).setIfInBounds 15 (.string ⟨x.toArray⟩) = TkC r b (p.s_wl x) A n c := by simp [TkC, Pk.s_wl]
@[go_sem] theorem TkC_set16 (x : Int) : (TkC r b p A n c).setIfInBounds 16 (.int .u8 x) = TkC r b (p.s_wq x) A n c := by simp [TkC, Pk.s_wq]
@[go_sem] theorem TkC_set17 (x : Bool) : (TkC r b p A n c).setIfInBounds 17 (.bool x) = TkC r b (p.s_wr x) A n c := by simp [TkC, Pk.s_wr]
@[go_sem] theorem TkC_set18 (x : Bool) : (TkC r b p A n c).setIfInBounds 18 (.bool x) = TkC r b (p.s_hasUser x) A n c := by simp [TkC, Pk.s_hasUser]
@[go_sem] theorem TkC_set19 (x : Bool) : (TkC r b p A n c).setIfInBounds 19 (.bool x) = TkC r b (p.s_hasPass x) A n c := by simp [TkC, Pk.s_hasPass]
@[go_sem] theorem TkC_set20 (x : List UInt8) : (TkC r b p A n c).setIfInBounds 20 (.string ⟨x.toArray⟩) = TkC r b (p.s_user x) A n c := by simp [TkC, Pk.s_user]
@[go_sem] theorem TkC_set21 (x : List UInt8) : (TkC r b p A n c).setIfInBounds 21 (.string ⟨x.toArray⟩) = TkC r b (p.s_pass x) A n c := by simp [TkC, Pk.s_pass]
@[go_sem] theorem TkC_set22 (x : Bool) : (TkC r b p A n c).setIfInBounds 22 (.bool x) = TkC r b (p.s_present x) A n c := by simp [TkC, Pk.s_present]
@[go_sem] theorem TkC_set23 (x : Int) : (TkC r b p A n c).setIfInBounds 23 (.int .u8 x) = TkC r b (p.s_code x) A n c := by simp [TkC, Pk.s_code]
@[go_sem] theorem TkC_set24 (B : Option Addr) (m d : Nat) : (TkC r b p A n c).setIfInBounds 24 (.slice B m d) = TkC r b p B m d := by simp [TkC]
@[go_sem] theorem TkC_set25 (x : List UInt8) : (TkC r b p A n c).setIfInBounds 25 (.string ⟨x.toArray⟩) = TkC r b (p.s_codes x) A n c := by simp [TkC, Pk.s_codes]
@[go_sem] theorem TkC_all : (TkC r b p A n c).extract 0 26 = TkC r b p A n c := by simp [TkC]
end
@[go_sem] theorem TkC_fold (r : Bool) (b : Int) (x_ty : Int) (x_dup : Bool) (x_qos : Int) (x_ret : Bool) (x_id : Int) (x_topic : List UInt8) (x_load : List UInt8) (x_level : Int) (x_clean : Bool) (x_keep : Int) (x_client : List UInt8) (x_hasWill : Bool) (x_wt : List UInt8) (x_wl : List UInt8) (x_wq : Int) (x_wr : Bool) (x_hasUser : Bool) (x_hasPass : Bool) (x_user : List UInt8) (x_pass : List UInt8) (x_present : Bool) (x_code : Int) (x_codes : List UInt8) (A : Option Addr) (n c : Nat) : (#[.bool r, .int .i64 b, .int .u8 x_ty, .bool x_dup, .int .u8 x_qos, .bool x_ret, .int .u16 x_id, .string ⟨x_topic.toArray⟩, .string ⟨x_load.toArray⟩, .int .u8 x_level, .bool x_clean, .int .u16 x_keep, .string ⟨x_client.toArray⟩, .bool x_hasWill, .string ⟨x_wt.toArray⟩, .string ⟨x_wl.toArray⟩, .int .u8 x_wq, .bool x_wr, .bool x_hasUser, .bool x_hasPass, .string ⟨x_user.toArray⟩, .string ⟨x_pass.toArray⟩, .bool x_present, .int .u8 x_code, .slice A n c, .string ⟨x_codes.toArray⟩] : Array Value) = TkC r b ⟨x_ty, x_dup, x_qos, x_ret, x_id, x_topic, x_load, x_level, x_clean, x_keep, x_client, x_hasWill, x_wt, x_wl, x_wq, x_wr, x_hasUser, x_hasPass, x_user, x_pass, x_present, x_code, x_codes⟩ A n c := by rw [TkC]
/-- A message's cells. -/
def MsC (t l : List UInt8) (q : Int) (r : Bool) : Array Value := #[.string ⟨t.toArray⟩, .string ⟨l.toArray⟩, .int .u8 q, .bool r]
section
variable {t l : List UInt8} {q : Int} {r : Bool}
@[go_sem, simp] theorem MsC_size : (MsC t l q r).size = 4 := by simp [MsC]
@[go_sem] theorem MsC_one : ones (MsC t l q r) = true := by simp [ones, MsC, Value.oneCell']
@[go_sem] theorem MsC_ne : (MsC t l q r = #[]) = False := by simp [MsC]
@[go_sem] theorem MsC_g0 (h : 0 < (MsC t l q r).size) : (MsC t l q r)[0]'h = .string ⟨t.toArray⟩ := by simp [MsC]
@[go_sem high] theorem MsC_0 : (MsC t l q r)[0]? = some (.string ⟨t.toArray⟩) := by simp [MsC]
@[go_sem] theorem MsC_g1 (h : 1 < (MsC t l q r).size) : (MsC t l q r)[1]'h = .string ⟨l.toArray⟩ := by simp [MsC]
@[go_sem high] theorem MsC_1 : (MsC t l q r)[1]? = some (.string ⟨l.toArray⟩) := by simp [MsC]
@[go_sem] theorem MsC_g2 (h : 2 < (MsC t l q r).size) : (MsC t l q r)[2]'h = .int .u8 q := by simp [MsC]
@[go_sem high] theorem MsC_2 : (MsC t l q r)[2]? = some (.int .u8 q) := by simp [MsC]
@[go_sem] theorem MsC_g3 (h : 3 < (MsC t l q r).size) : (MsC t l q r)[3]'h = .bool r := by simp [MsC]
@[go_sem high] theorem MsC_3 : (MsC t l q r)[3]? = some (.bool r) := by simp [MsC]
@[go_sem] theorem MsC_set0 (x : List UInt8) : (MsC t l q r).setIfInBounds 0 (.string ⟨x.toArray⟩) = MsC x l q r := by simp [MsC]
@[go_sem] theorem MsC_set1 (x : List UInt8) : (MsC t l q r).setIfInBounds 1 (.string ⟨x.toArray⟩) = MsC t x q r := by simp [MsC]
@[go_sem] theorem MsC_set2 (x : Int) : (MsC t l q r).setIfInBounds 2 (.int .u8 x) = MsC t l x r := by simp [MsC]
@[go_sem] theorem MsC_set3 (x : Bool) : (MsC t l q r).setIfInBounds 3 (.bool x) = MsC t l q x := by simp [MsC]
@[go_sem] theorem MsC_all : (MsC t l q r).extract 0 4 = MsC t l q r := by simp [MsC]
end
@[go_sem] theorem MsC_fold (t l : List UInt8) (q : Int) (r : Bool) : (#[.string ⟨t.toArray⟩, .string ⟨l.toArray⟩, .int .u8 q, .bool r] : Array Value) = MsC t l q r := by rw [MsC]
/-- A sub's cells. -/
def SbC (f : List UInt8) (q : Int) : Array Value := #[.string ⟨f.toArray⟩, .int .u8 q]
section
variable {f : List UInt8} {q : Int}
@[go_sem, simp] theorem SbC_size : (SbC f q).size = 2 := by simp [SbC]
@[go_sem] theorem SbC_one : ones (SbC f q) = true := by simp [ones, SbC, Value.oneCell']
@[go_sem] theorem SbC_ne : (SbC f q = #[]) = False := by simp [SbC]
@[go_sem] theorem SbC_g0 (h : 0 < (SbC f q).size) : (SbC f q)[0]'h = .string ⟨f.toArray⟩ := by simp [SbC]
@[go_sem high] theorem SbC_0 : (SbC f q)[0]? = some (.string ⟨f.toArray⟩) := by simp [SbC]
@[go_sem] theorem SbC_g1 (h : 1 < (SbC f q).size) : (SbC f q)[1]'h = .int .u8 q := by simp [SbC]
@[go_sem high] theorem SbC_1 : (SbC f q)[1]? = some (.int .u8 q) := by simp [SbC]
@[go_sem] theorem SbC_set0 (x : List UInt8) : (SbC f q).setIfInBounds 0 (.string ⟨x.toArray⟩) = SbC x q := by simp [SbC]
@[go_sem] theorem SbC_set1 (x : Int) : (SbC f q).setIfInBounds 1 (.int .u8 x) = SbC f x := by simp [SbC]
@[go_sem] theorem SbC_all : (SbC f q).extract 0 2 = SbC f q := by simp [SbC]
end
@[go_sem] theorem SbC_fold (f : List UInt8) (q : Int) : (#[.string ⟨f.toArray⟩, .int .u8 q] : Array Value) = SbC f q := by rw [SbC]
section
variable {p : Pk} {A : Option Addr} {n c : Nat} {r : Bool} {b : Int}
@[go_sem] theorem TkC_left : (TkC r b p A n c).extract 2 26 = PkC p A n c := by simp [TkC, PkC]
@[go_sem] theorem PkC_will : (PkC p A n c).extract 12 16 = MsC p.wt p.wl p.wq p.wr := by simp [MsC, PkC]
end
@[go_sem] theorem zPk_mk : (⟨0, false, 0, false, 0, [], [], 0, false, 0, [], false, [], [], 0, false, false, false, [], [], false, 0, []⟩ : Pk) = zPk := by rw [zPk]
@[go_sem] theorem zPk_ty : zPk.ty = 0 := by rw [zPk]
@[go_sem] theorem zPk_dup : zPk.dup = false := by rw [zPk]
@[go_sem] theorem zPk_qos : zPk.qos = 0 := by rw [zPk]
@[go_sem] theorem zPk_ret : zPk.ret = false := by rw [zPk]
@[go_sem] theorem zPk_id : zPk.id = 0 := by rw [zPk]
@[go_sem] theorem zPk_topic : zPk.topic = [] := by rw [zPk]
@[go_sem] theorem zPk_load : zPk.load = [] := by rw [zPk]
@[go_sem] theorem zPk_level : zPk.level = 0 := by rw [zPk]
@[go_sem] theorem zPk_clean : zPk.clean = false := by rw [zPk]
@[go_sem] theorem zPk_keep : zPk.keep = 0 := by rw [zPk]
@[go_sem] theorem zPk_client : zPk.client = [] := by rw [zPk]
@[go_sem] theorem zPk_hasWill : zPk.hasWill = false := by rw [zPk]
@[go_sem] theorem zPk_wt : zPk.wt = [] := by rw [zPk]
@[go_sem] theorem zPk_wl : zPk.wl = [] := by rw [zPk]
@[go_sem] theorem zPk_wq : zPk.wq = 0 := by rw [zPk]
@[go_sem] theorem zPk_wr : zPk.wr = false := by rw [zPk]
@[go_sem] theorem zPk_hasUser : zPk.hasUser = false := by rw [zPk]
@[go_sem] theorem zPk_hasPass : zPk.hasPass = false := by rw [zPk]
@[go_sem] theorem zPk_user : zPk.user = [] := by rw [zPk]
@[go_sem] theorem zPk_pass : zPk.pass = [] := by rw [zPk]
@[go_sem] theorem zPk_present : zPk.present = false := by rw [zPk]
@[go_sem] theorem zPk_code : zPk.code = 0 := by rw [zPk]
@[go_sem] theorem zPk_codes : zPk.codes = [] := by rw [zPk]

section
variable {w : World} {p q : Pk} {A B : Option Addr} {n c m d : Nat} {r r' : Bool} {b b' : Int} {t l t' l' : List UInt8} {x y : Int} {k k' : Bool}
@[go_sem] theorem spl_PkC : spl (PkC p A n c) 0 (PkC q B m d).toList = PkC q B m d := by simp [PkC, spl]
@[go_sem] theorem spl_ScC : spl (ScC p) 0 (ScC q).toList = ScC q := by simp [ScC, spl]
@[go_sem] theorem spl_TkC : spl (TkC r b p A n c) 0 (TkC r' b' q B m d).toList = TkC r' b' q B m d := by simp [TkC, spl]
@[go_sem] theorem spl_TkC_left : spl (TkC r b p A n c) 2 (PkC q B m d).toList = TkC r b q B m d := by simp [TkC, PkC, spl]
@[go_sem] theorem spl_PkC_will : spl (PkC p A n c) 12 (MsC t l x k).toList = PkC (p.s_will t l x k) A n c := by simp [PkC, MsC, spl, Pk.s_will]
@[go_sem ↓] theorem load_pk {f : Operand → Value} (d : Option Tmp) (x : Operand) (ty : TypeId) (ps : String) (af : Array Edge) (gd : Option (Nat × Bool)) (h1 : isPtr (f x) = true) (h2 : ptrOff (f x) + 24 ≤ (rowAt w (ptrBlk (f x))).size) :
    (execOp f ⟨d, .load 36 x, ty, ps, af, gd⟩).run Tryz.prog w = .ok (.value (.agg ((rowAt w (ptrBlk (f x))).extract (ptrOff (f x)) (ptrOff (f x) + 24)))) w := exec_load (by kernel_rfl) (by kernel_rfl) (by omega) x rfl h1 h2
@[go_sem ↓] theorem load_sc {f : Operand → Value} (d : Option Tmp) (x : Operand) (ty : TypeId) (ps : String) (af : Array Edge) (gd : Option (Nat × Bool)) (h1 : isPtr (f x) = true) (h2 : ptrOff (f x) + 23 ≤ (rowAt w (ptrBlk (f x))).size) :
    (execOp f ⟨d, .load 116 x, ty, ps, af, gd⟩).run Tryz.prog w = .ok (.value (.agg ((rowAt w (ptrBlk (f x))).extract (ptrOff (f x)) (ptrOff (f x) + 23)))) w := exec_load (by kernel_rfl) (by kernel_rfl) (by omega) x rfl h1 h2
@[go_sem ↓] theorem load_tk {f : Operand → Value} (d : Option Tmp) (x : Operand) (ty : TypeId) (ps : String) (af : Array Edge) (gd : Option (Nat × Bool)) (h1 : isPtr (f x) = true) (h2 : ptrOff (f x) + 26 ≤ (rowAt w (ptrBlk (f x))).size) :
    (execOp f ⟨d, .load 109 x, ty, ps, af, gd⟩).run Tryz.prog w = .ok (.value (.agg ((rowAt w (ptrBlk (f x))).extract (ptrOff (f x)) (ptrOff (f x) + 26)))) w := exec_load (by kernel_rfl) (by kernel_rfl) (by omega) x rfl h1 h2
@[go_sem ↓] theorem load_ms {f : Operand → Value} (d : Option Tmp) (x : Operand) (ty : TypeId) (ps : String) (af : Array Edge) (gd : Option (Nat × Bool)) (h1 : isPtr (f x) = true) (h2 : ptrOff (f x) + 4 ≤ (rowAt w (ptrBlk (f x))).size) :
    (execOp f ⟨d, .load 33 x, ty, ps, af, gd⟩).run Tryz.prog w = .ok (.value (.agg ((rowAt w (ptrBlk (f x))).extract (ptrOff (f x)) (ptrOff (f x) + 4)))) w := exec_load (by kernel_rfl) (by kernel_rfl) (by omega) x rfl h1 h2
@[go_sem ↓] theorem load_sb {f : Operand → Value} (d : Option Tmp) (x : Operand) (ty : TypeId) (ps : String) (af : Array Edge) (gd : Option (Nat × Bool)) (h1 : isPtr (f x) = true) (h2 : ptrOff (f x) + 2 ≤ (rowAt w (ptrBlk (f x))).size) :
    (execOp f ⟨d, .load 42 x, ty, ps, af, gd⟩).run Tryz.prog w = .ok (.value (.agg ((rowAt w (ptrBlk (f x))).extract (ptrOff (f x)) (ptrOff (f x) + 2)))) w := exec_load (by kernel_rfl) (by kernel_rfl) (by omega) x rfl h1 h2
theorem wpList_buildE {P : Program} {ops : Array Oper} {rest : List Oper} {o : Oper} {a : Act} {Q : Exit → Act → World → Prop} (hg : o.guard = none) (t : TypeId) (parts : Array (Nat × Operand)) (ho : o.op = .build t parts) (cells : Array Value)
    (hf : P.built t (parts.map fun (i, x) => (i, a.eval x)).toList = some cells) (h : wpList P ops Q rest (a.put o.dst (.agg cells)) w) : wpList P ops Q (o :: rest) a w :=
  wpList_build hg t parts ho (by rw [hf]; rfl) (by rw [hf]; exact h)
end
section
variable {w w' w6 : World} {L : List (Nat × Array Value × TypeId)} {g g' i : Nat} {cs cs' : Array Value} {t : TypeId} {v : Value}
@[go_sem] theorem setCell_row (g i : Nat) (v : Value) : w.setCell ⟨g, i, none⟩ v = w.setRow g ((rowAt w g).setIfInBounds i v) := by
  unfold World.setCell World.setRow rowAt
  congr 1
  apply Array.ext_getElem?
  intro k
  simp only [Array.getElem?_modify]
  by_cases hk : g = k
  · subst hk
    cases h : w.heap[g]? with
    | none => simp [h]
    | some o => cases o <;> simp [h]
  · simp [hk]
@[go_sem] theorem rowAt_setRow (h : freeB w g = true) (g' : Nat) : rowAt (w.setRow g cs) g' = if g' = g then cs else rowAt w g' := by
  obtain ⟨t, hh⟩ := freeB_some h
  by_cases hg : g' = g
  · subst hg
    rw [if_pos rfl]
    exact rowAt_blk (setRow_heap w g' _ cs t _ hh)
  · rw [if_neg hg]
    unfold rowAt
    rw [setRow_other w g g' cs hg]
@[go_sem] theorem freeB_setRow (g' : Nat) : freeB (w.setRow g cs) g' = freeB w g' := by
  unfold freeB World.setRow
  simp only [Array.getElem?_modify]
  by_cases hk : g = g'
  · subst hk
    cases h : w.heap[g]? with
    | none => simp
    | some o => cases o <;> simp
  · simp [hk]
@[go_sem] theorem cell_setRow (h : freeB w g = true) (g' i : Nat) : (w.setRow g cs).cell? ⟨g', i, none⟩ = if g' = g then cs[i]? else w.cell? ⟨g', i, none⟩ := by
  obtain ⟨t, hh⟩ := freeB_some h
  by_cases hg : g' = g
  · subst hg
    rw [if_pos rfl]
    exact cell_setRow_same w g' i _ cs t _ hh
  · rw [if_neg hg]
    exact cell_setRow_other w g cs _ hg
@[go_sem] theorem frozen_setRow (g' i : Nat) : (w.setRow g cs).frozen? ⟨g', i, none⟩ = w.frozen? ⟨g', i, none⟩ := by
  unfold World.frozen? World.setRow
  simp only [Array.getElem?_modify]
  by_cases hk : g = g'
  · subst hk
    cases h : w.heap[g]? with
    | none => simp
    | some o => cases o <;> simp
  · simp [hk]
@[go_sem] theorem setRow_twice (cs cs' : Array Value) : (w.setRow g cs).setRow g cs' = w.setRow g cs' := setRow_setRow w g cs cs'
/-- The blocks of the call's own, known whole; of what was there ahead of the call nothing has turned. -/
structure Kp (w : World) (L : List (Nat × Array Value × TypeId)) (w' : World) : Prop where
  rows : ∀ x ∈ L, w.heap.size ≤ x.1 ∧ w'.heap[x.1]? = some (.cells x.2.1 x.2.2 (0, 0))
  below : Below w.heap.size w w'
theorem Kp.nil (w : World) : Kp w [] w := ⟨fun _ h => (by cases h), Below.refl _ _⟩
theorem Kp.new (h : Kp w L w') (cs : Array Value) (t : TypeId) : Kp w ((w'.heap.size, cs, t) :: L) (w'.alloc (.cells cs t)) :=
  ⟨fun x hx => by
    rcases List.mem_cons.1 hx with rfl | hx
    · exact ⟨h.below.size, heap_alloc_new w' _⟩
    · obtain ⟨h1, h2⟩ := h.rows x hx
      exact ⟨h1, (Below.heap_alloc w' _ x.1 (Array.getElem?_eq_some_iff.1 h2).1).trans h2⟩, h.below.alloc h.below.size _⟩
theorem Kp.more (h : Kp w L w') (hb : Below w'.heap.size w' w6) : Kp w L w6 :=
  ⟨fun x hx => by
    obtain ⟨h1, h2⟩ := h.rows x hx
    exact ⟨h1, (hb.block _ (Array.getElem?_eq_some_iff.1 h2).1).trans h2⟩, below_more h.below hb⟩
theorem Kp.drew (h : Kp w L w') : Kp w L w'.drew := ⟨h.rows, h.below.drew⟩
theorem Kp.tail {x : Nat × Array Value × TypeId} (h : Kp w (x :: L) w') : Kp w L w' := ⟨fun y hy => h.rows y (by simp [hy]), h.below⟩
theorem Kp.row (h : Kp w ((g, cs, t) :: L) w') : rowAt w' g = cs := rowAt_blk (h.rows (g, cs, t) (by simp)).2
theorem Kp.free (h : Kp w ((g, cs, t) :: L) w') : freeB w' g = true := by
  unfold freeB
  rw [(h.rows (g, cs, t) (by simp)).2]
  rfl
theorem Kp.cell (h : Kp w ((g, cs, t) :: L) w') : ∀ i, w'.cell? ⟨g, i, none⟩ = cs[i]? := fun i => cell_of_row w' g i cs t (0, 0) (h.rows (g, cs, t) (by simp)).2
theorem Kp.froz (h : Kp w ((g, cs, t) :: L) w') : ∀ i, w'.frozen? ⟨g, i, none⟩ = false := fun i => by
  have := (h.rows (g, cs, t) (by simp)).2
  simp at this
  simp [World.frozen?, this]
theorem Kp.lt (h : Kp w ((g, cs, t) :: L) w') : g < w'.heap.size := (Array.getElem?_eq_some_iff.1 (h.rows (g, cs, t) (by simp)).2).1
theorem Kp.set (h : Kp w ((g, cs, t) :: L) w') (hne : ∀ x ∈ L, x.1 ≠ g) (cs' : Array Value) : Kp w ((g, cs', t) :: L) (w'.setRow g cs') := by
  obtain ⟨h1, h2⟩ := h.rows (g, cs, t) (by simp)
  refine ⟨fun x hx => ?_, below_setRow h.below h1 cs'⟩
  rcases List.mem_cons.1 hx with rfl | hx
  · exact ⟨h1, setRow_heap w' g _ cs' t _ h2⟩
  · obtain ⟨k1, k2⟩ := h.rows x (by simp [hx])
    exact ⟨k1, (setRow_other w' g x.1 cs' (hne x hx)).trans k2⟩
theorem Kp.swap {x y : Nat × Array Value × TypeId} (h : Kp w (x :: y :: L) w') : Kp w (y :: x :: L) w' :=
  ⟨fun z hz => h.rows z (by simp at hz ⊢; rcases hz with h | h | h <;> simp [h]), h.below⟩
/-- As Kp, and a packet that is taken apart lies at h. -/
def Kq (w : World) (h : Nat) (L : List (Nat × Array Value × TypeId)) (w' : World) : Prop := ∃ r b q A n c, Kp w ((h, TkC r b q A n c, 109) :: L) w'
theorem Kq.more {h : Nat} (k : Kq w h L w') (hb : Below w'.heap.size w' w6) : Kq w h L w6 := by
  obtain ⟨r, b, q, A, n, c, k⟩ := k
  exact ⟨r, b, q, A, n, c, k.more hb⟩
theorem Kq.tail {h : Nat} (k : Kq w h L w') : Kp w L w' := by
  obtain ⟨r, b, q, A, n, c, k⟩ := k
  exact k.tail
theorem Kq.set {h : Nat} (k : Kq w h L w') (hne : ∀ x ∈ L, x.1 ≠ h) (r : Bool) (b : Int) (q : Pk) (A : Option Addr) (n c : Nat) : Kq w h L (w'.setRow h (TkC r b q A n c)) := by
  obtain ⟨r', b', q', A', n', c', k⟩ := k
  exact ⟨r, b, q, A, n, c, k.set hne _⟩
end
end Go.Proofs.YtnaedcennichlaaGreatDoor
