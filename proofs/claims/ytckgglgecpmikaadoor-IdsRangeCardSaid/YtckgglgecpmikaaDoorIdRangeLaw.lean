/-
  IdsRange: the ids that are told rise, each is taken, and they are as many as are; they are those of the moment of the call; who leaves early can begin anew. The card, without a bound: for every input.
-/
import Derived.Test.YtckgglgecpmikaaDoorIdHelp
import Derived.Test.YtckgglgecpmikaaDoorIdFrame
import Derived.Test.YtckgglgecpmikaaDoorTie
import Derived.Test.YtckgglgecpmikaaDoorCards
import Derived.SevenTiedAt
import Derived.ProofKit
set_option linter.unusedSimpArgs false
set_option linter.unusedVariables false
namespace Go.Proofs.YtckgglgecpmikaaDoor
section
open Go.RowKit
def oIdRangeLaw1 : Oper := ({ dst := some 101, op := Go.Op.load 30 (Go.Operand.tmp 14), type := 30, pos := "outright.go:81", after := #[], guard := none } : Oper)
def oIdRangeLaw2 : Oper := ({ dst := some 102, op := Go.Op.call { callee := Go.Callee.builtin Go.Builtin.len, args := #[Go.Operand.tmp 101], argTypes := #[30] }, type := 3, pos := "outright.go:81", after := #[{ on := 0, ground := Go.Ground.data }], guard := none } : Oper)
def oIdRangeLaw3 : Oper := ({ dst := some 103, op := Go.Op.move (Go.Operand.tmp 10), type := 3, pos := "outright.go:81", after := #[], guard := none } : Oper)
def oIdRangeLaw4 : Oper := ({ dst := some 104, op := Go.Op.binOp Go.BinOp.eql 3 (Go.Operand.tmp 102) (Go.Operand.tmp 103) 3, type := 4, pos := "outright.go:81", after := #[{ on := 1, ground := Go.Ground.data }, { on := 2, ground := Go.Ground.data }], guard := none } : Oper)
def oIdRangeLaw5 : Oper := ({ dst := some 105, op := Go.Op.move (Go.Operand.tmp 104), type := 4, pos := "outright.go:81", after := #[{ on := 3, ground := Go.Ground.data }], guard := none } : Oper)
def oIdRangeLaw6 : Oper := ({ dst := some 106, op := Go.Op.load 4 (Go.Operand.tmp 15), type := 4, pos := "outright.go:81", after := #[{ on := 4, ground := Go.Ground.guard }], guard := some (4, true) } : Oper)
def oIdRangeLaw7 : Oper := ({ dst := some 107, op := Go.Op.move (Go.Operand.tmp 11), type := 45, pos := "outright.go:81", after := #[{ on := 4, ground := Go.Ground.guard }], guard := some (4, true) } : Oper)
def oIdRangeLaw8 : Oper := ({ dst := some 108, op := Go.Op.indexAddr 45 (Go.Operand.tmp 107) (Go.Operand.const (Go.Value.int Go.IntKind.i64 0)), type := 0, pos := "outright.go:81", after := #[{ on := 6, ground := Go.Ground.data }, { on := 4, ground := Go.Ground.guard }], guard := some (4, true) } : Oper)
def oIdRangeLaw9 : Oper := ({ dst := some 109, op := Go.Op.load 4 (Go.Operand.tmp 108), type := 4, pos := "outright.go:81", after := #[{ on := 7, ground := Go.Ground.data }, { on := 4, ground := Go.Ground.guard }], guard := some (4, true) } : Oper)
def oIdRangeLaw10 : Oper := ({ dst := some 110, op := Go.Op.binOp Go.BinOp.eql 4 (Go.Operand.tmp 106) (Go.Operand.tmp 109) 4, type := 4, pos := "outright.go:81", after := #[{ on := 5, ground := Go.Ground.data }, { on := 8, ground := Go.Ground.data }, { on := 4, ground := Go.Ground.guard }], guard := some (4, true) } : Oper)
def oIdRangeLaw11 : Oper := ({ dst := some 111, op := Go.Op.pick (Go.Operand.tmp 105) (Go.Operand.tmp 110) (Go.Operand.const (Go.Value.bool false)), type := 4, pos := "outright.go:81", after := #[{ on := 4, ground := Go.Ground.data }, { on := 9, ground := Go.Ground.data }], guard := none } : Oper)
def oIdRangeLaw12 : Oper := ({ dst := some 112, op := Go.Op.move (Go.Operand.tmp 111), type := 4, pos := "outright.go:81", after := #[{ on := 10, ground := Go.Ground.data }, { on := 4, ground := Go.Ground.chain }], guard := none } : Oper)
def oIdRangeLaw13 : Oper := ({ dst := some 113, op := Go.Op.load 3 (Go.Operand.tmp 12), type := 3, pos := "outright.go:81", after := #[{ on := 11, ground := Go.Ground.guard }], guard := some (11, true) } : Oper)
def oIdRangeLaw14 : Oper := ({ dst := some 114, op := Go.Op.load 30 (Go.Operand.tmp 14), type := 30, pos := "outright.go:81", after := #[{ on := 11, ground := Go.Ground.guard }], guard := some (11, true) } : Oper)
def oIdRangeLaw15 : Oper := ({ dst := some 115, op := Go.Op.call { callee := Go.Callee.builtin Go.Builtin.len, args := #[Go.Operand.tmp 114], argTypes := #[30] }, type := 3, pos := "outright.go:81", after := #[{ on := 13, ground := Go.Ground.data }, { on := 11, ground := Go.Ground.guard }], guard := some (11, true) } : Oper)
def oIdRangeLaw16 : Oper := ({ dst := some 116, op := Go.Op.binOp Go.BinOp.leq 3 (Go.Operand.tmp 113) (Go.Operand.tmp 115) 3, type := 4, pos := "outright.go:81", after := #[{ on := 12, ground := Go.Ground.data }, { on := 14, ground := Go.Ground.data }, { on := 11, ground := Go.Ground.guard }], guard := some (11, true) } : Oper)
def oIdRangeLaw17 : Oper := ({ dst := some 117, op := Go.Op.pick (Go.Operand.tmp 112) (Go.Operand.tmp 116) (Go.Operand.const (Go.Value.bool false)), type := 4, pos := "outright.go:81", after := #[{ on := 11, ground := Go.Ground.data }, { on := 15, ground := Go.Ground.data }], guard := none } : Oper)
def oIdRangeLaw18 : Oper := ({ dst := some 118, op := Go.Op.move (Go.Operand.tmp 117), type := 4, pos := "outright.go:81", after := #[{ on := 16, ground := Go.Ground.data }, { on := 11, ground := Go.Ground.chain }], guard := none } : Oper)
def oIdRangeLaw19 : Oper := ({ dst := some 119, op := Go.Op.call { callee := Go.Callee.value (Go.Operand.func 15), args := #[], argTypes := #[] }, type := 4, pos := "outright.go:81", after := #[{ on := 17, ground := Go.Ground.chain }, { on := 17, ground := Go.Ground.guard }], guard := some (17, true) } : Oper)
def oIdRangeLaw20 : Oper := ({ dst := some 120, op := Go.Op.pick (Go.Operand.tmp 118) (Go.Operand.tmp 119) (Go.Operand.const (Go.Value.bool false)), type := 4, pos := "outright.go:81", after := #[{ on := 17, ground := Go.Ground.data }, { on := 18, ground := Go.Ground.data }], guard := none } : Oper)
def oIdRangeLaw21 : Oper := ({ dst := none, op := Go.Op.store 4 (Go.Operand.tmp 6) (Go.Operand.tmp 120), type := 0, pos := "outright.go:81", after := #[{ on := 19, ground := Go.Ground.data }, { on := 18, ground := Go.Ground.chain }, { on := 0, ground := Go.Ground.phase }, { on := 1, ground := Go.Ground.phase }, { on := 2, ground := Go.Ground.phase }, { on := 3, ground := Go.Ground.phase }, { on := 4, ground := Go.Ground.phase }, { on := 5, ground := Go.Ground.phase }, { on := 6, ground := Go.Ground.phase }, { on := 7, ground := Go.Ground.phase }, { on := 8, ground := Go.Ground.phase }, { on := 9, ground := Go.Ground.phase }, { on := 10, ground := Go.Ground.phase }, { on := 11, ground := Go.Ground.phase }, { on := 12, ground := Go.Ground.phase }, { on := 13, ground := Go.Ground.phase }, { on := 14, ground := Go.Ground.phase }, { on := 15, ground := Go.Ground.phase }, { on := 16, ground := Go.Ground.phase }, { on := 17, ground := Go.Ground.phase }, { on := 18, ground := Go.Ground.phase }, { on := 19, ground := Go.Ground.phase }], guard := none } : Oper)
end
open Go.RowKit Go.Shelf Go.ChangeShapes Go.WideShapes Go.ChangeAt
namespace lawIdsRange
attribute [local go_sem] Oper.semAt_some
theorem infoB : (Tryd.prog.info? 4).map (fun i => (i.zero, i.size, i.bytes)) = some (some (.bool false), 1, 1) := by kernel_rfl
section
theorem run_loadBool {P : Program} {w : World} {g : Nat} {ty : TypeId} {b : Bool} (hc : w.cell? ⟨g, 0, none⟩ = some (.bool b)) (ht : P.underlying ty = some .bool) : (loadVar ty ⟨g, 0, none⟩).run P w = .ok (.bool b) w := by
  simp [loadVar, isAgg, run_underlying ht, hc]
theorem results_bool {P : Program} {fn : Func} {p : Tmp} {ty : TypeId} (h : fn.results = #[.cell p ty]) (tmps : Array Value) (w : World) (g : Nat) (b : Bool) (hp : tmps.getD p undef = .pointer (some ⟨g, 0, none⟩)) (hc : w.cell? ⟨g, 0, none⟩ = some (.bool b)) (ht : P.underlying ty = some .bool) :
    (results fn tmps).run P w = .ok (.bool b) w := by
  have hp' : tmps[p]?.getD undef = .pointer (some ⟨g, 0, none⟩) := by simpa using hp
  have hl := run_loadBool (P := P) hc ht
  simp [results, h, hp', asAddr, hl]
/-- A range over ids: the frame of a round is the loop's own, with the id in two places. -/
theorem range_ids {g : Operand} {p d : Tmp} {assign body : Code} {Q : Exit → Act → World → Prop} {a : Act} {w : World} {bx : Nat} {A : Option Addr} {L : List Nat} {LS : List N16}
    (hg : a.eval g = .func (.func 27) #[] #[.pointer (some ⟨bx, 0, none⟩)]) (hSQ : SQ w bx A L) (hG : GloT w) (hLS : LS.map (·.1) = L) (hsg : ∀ b, SG bx A b → b < w.heap.size)
    (I : List N16 → World → Prop) (Ix : Code → List N16 → World → Prop) (hI : OwnFrom w.heap.size I) (hIx : ∀ c, OwnFrom w.heap.size (Ix c)) (h0 : I [] w)
    (hassign : ∀ (l : Nat) (v : Value) (W : World) (K : Act → World → Prop), K { tmps := (a.tmps.setIfInBounds p v).setIfInBounds d v, defers := [] } W → assign.wpIn (Fence.wide.inRound l) 7 Tryd.prog (Exit.then K (fun _ _ _ => False)) { tmps := a.tmps.setIfInBounds p v, defers := [] } W)
    (hbody : ∀ (l : Nat) (pre : List N16) (x : N16) (W : World), I pre W → pre.length < LS.length → body.wpIn (Fence.wide.inRound l) 7 Tryd.prog (ownPostG w.heap.size (KpG (SG bx A)) I Ix (pre ++ [x]) W) { tmps := (a.tmps.setIfInBounds p (.int .u16 (x.1 : Nat))).setIfInBounds d (.int .u16 (x.1 : Nat)), defers := [] } W)
    (hdone : ∀ (D : Nat) (W : World), w.heap.size ≤ D → I LS W → W.heap[D]? = some (.deferred (some [])) → Q .normal { a with defers := { target := .collected D, args := #[] } :: a.defers } W)
    (hstop : ∀ (D : Nat) (c : Code) (pre : List N16) (W : World), w.heap.size ≤ D → pre <+: LS → Ix c pre W → W.heap[D]? = some (.deferred (some [])) → c.wpIn Fence.wide 9 Tryd.prog Q { a with defers := { target := .collected D, args := #[] } :: a.defers } W) :
    (Code.rangeFunc g #[p] assign body).wpIn Fence.wide 9 Tryd.prog Q a w := by
  refine wpIn_rangeFunc_ownH rfl (by omega) (gf := 27) (lb := #[.pointer (some ⟨bx, 0, none⟩)]) hg trivial (enters_of Tryd.func27 (by kernel_rfl) rfl)
    (seq_stops 8 (by omega) hSQ hG LS hLS) KpG.t (KpG.b hsg) (Below.refl _ _) (fun _ => rfl) I Ix hI hIx h0
    (fun x a' W => a' = { tmps := (a.tmps.setIfInBounds p (.int .u16 (x.1 : Nat))).setIfInBounds d (.int .u16 (x.1 : Nat)), defers := [] }) (fun x a' _ X Y row hs hg hr => hs) ?assign ?body ?done ?stop
  case assign =>
    intro l pre x W K hi hK
    have h := hassign l (.int .u16 (x.1 : Nat)) W K (hK _ _ (KeepsFrom.refl _ _) (KpG.refl _) hi rfl)
    have e : ((#[p] : Array Tmp).zip (EncN x)).foldl (fun (t : Array Value) (q : Tmp × Value) => t.setIfInBounds q.1 q.2) a.tmps = a.tmps.setIfInBounds p (.int .u16 (x.1 : Nat)) := by simp [EncN]
    show Code.wpIn (Fence.wide.inRound l) 7 Tryd.prog assign (Exit.then K (fun _ _ _ => False)) { tmps := ((#[p] : Array Tmp).zip (EncN x)).foldl (fun (t : Array Value) (q : Tmp × Value) => t.setIfInBounds q.1 q.2) a.tmps, defers := [] } W
    rw [e]; exact h
  case body =>
    rintro l pre x a' W _ _ hi rfl hlt
    exact hbody l pre x W hi hlt
  case done =>
    rintro D xs W hD rfl hi hK
    exact hdone D W hD hi hK
  case stop =>
    intro D c pre W hD hp hi hK
    exact hstop D c pre W hD hp hi hK
theorem ownFrom_kpG {β : Type} {B : Nat} {G : Nat → Prop} {w₀ : World} (hG : ∀ b, G b → b < B ∧ b < w₀.heap.size) : OwnFrom B (fun (_ : β) W => KpG G w₀ W) := fun s X Y row hs hg hr =>
  ⟨Nat.le_trans hs.size hg.size, fun b hb => (hg.block b (Nat.lt_of_lt_of_le (hG b hb).2 hs.size) (fun e => by have := (hr b e.symm).1; have := (hG b hb).1; omega)).trans (hs.block b hb)⟩
end
/-- A region that does not panic: what a panic would owe need not be known. -/
def NoP (Q : Exit → Act → World → Prop) : Exit → Act → World → Prop
  | .panic _, _, _ => False
  | e, a, w => Q e a w
theorem noPanic {P : Program} {c : Code} {Q : Exit → Act → World → Prop} {a : Act} {w : World} (h : c.wp P (NoP Q) a w) : c.wp P Q a w :=
  Code.wp_mono (fun e a w hq => by cases e <;> first | exact hq | exact hq.elim) h
theorem srt_snoc {l : List Nat} {y x : Nat} (h : Srt ltN (l ++ [y])) (hx : y < x) : Srt ltN ((l ++ [y]) ++ [x]) := by
  unfold Srt at *
  rw [List.pairwise_append]
  refine ⟨h, List.pairwise_singleton _ _, fun a ha b hb => ?_⟩
  rw [List.mem_singleton] at hb
  subst hb
  rcases List.mem_append.1 ha with ha | ha
  · have := (List.pairwise_append.1 h).2.2 a ha y (by simp)
    simp [ltN] at this ⊢; omega
  · rw [List.mem_singleton] at ha
    subst ha
    simp [ltN]; exact hx
theorem not_snoc {l : List Nat} {y x : Nat} (hx : ¬ y < x) : ¬ Srt ltN ((l ++ [y]) ++ [x]) := fun h => by
  unfold Srt at h
  have := (List.pairwise_append.1 h).2.2 y (by simp) x (by simp)
  simp [ltN] at this
  omega
theorem told_dec (id x : Nat) (P : List Nat) (t0 r : Bool) (h0 : decide (id ∈ P) = t0) (hr : decide (x = id) = r) : decide (id ∈ P ++ [x]) = (t0 || r) := by
  subst h0 hr
  rw [Bool.eq_iff_iff]
  simp only [decide_eq_true_eq, Bool.or_eq_true, List.mem_append, List.mem_singleton]
  exact ⟨fun h => h.imp (fun k => k) Eq.symm, fun h => h.imp (fun k => k) Eq.symm⟩
/-- What is asked behind the pool's last turn: the iterator, the row of one answer, the boxes. -/
structure RS (w W : World) (bx : Nat) (A : Option Addr) (L : List Nat) (hb : Nat) (f : Int) (id : Nat) : Prop where
  below : Below w.heap.size w W
  sq : SQ W bx A L
  ab : ∀ b o, A = some ⟨b, o, none⟩ → w.heap.size + 3 ≤ b
  bxb : w.heap.size + 3 ≤ bx
  al : ∀ b o, A = some ⟨b, o, none⟩ → b < W.heap.size
  had : W.cell? ⟨hb, 0, none⟩ = some (.bool (decide (id ∈ L)))
  hbl : w.heap.size + 3 ≤ hb
  b4 : Boxed W w.heap.size 5 (.int .u8 f)
  b5 : Boxed W (w.heap.size + 1) 25 (.int .u16 (id : Nat))
  b6 : Boxed W (w.heap.size + 2) 4 (.bool false)
theorem RS.keep {w W W' : World} {bx hb id : Nat} {A : Option Addr} {L : List Nat} {f : Int} (h : RS w W bx A L hb f id) (hk : ∀ b, b < W.heap.size → W'.heap[b]? = W.heap[b]?) (hs : W.heap.size ≤ W'.heap.size) (hB : Below w.heap.size w W') : RS w W' bx A L hb f id :=
  ⟨hB, h.sq.keep (fun b hl _ => hk b hl), h.ab, h.bxb, fun b o e => Nat.lt_of_lt_of_le (h.al b o e) hs, (World.cell?_of_block (hk hb (World.block_lt_of_cell? _ _ h.had))).trans h.had, h.hbl,
    (hk _ h.b4.lt).trans h.b4, (hk _ h.b5.lt).trans h.b5, (hk _ h.b6.lt).trans h.b6⟩
/-- The pool, and beside it what has been told of it. -/
structure RT (W0 W : World) (t : Nat) (F : Nat → Prop) (Lc : List Nat) (bx : Nat) (A : Option Addr) (L : List Nat) (hb : Nat) (s : Bool) : Prop where
  own : OwnP W0.heap.size W0 W t F Lc
  sq : SQ W bx A L
  al : ∀ b o, A = some ⟨b, o, none⟩ → b < W.heap.size
  had : W.cell? ⟨hb, 0, none⟩ = some (.bool s)
  nb : ¬ F bx
  na : ∀ b o, A = some ⟨b, o, none⟩ → ¬ F b
  nh : ¬ F hb
section
variable {W0 W W' : World} {t bx hb : Nat} {F : Nat → Prop} {Lc M L : List Nat} {A : Option Addr} {s : Bool} {e : Ending}
theorem RT.next {F' : Nat → Prop} (h : RT W0 W t F Lc bx A L hb s) (hP : PI W' t F' M) (hU : Outs W W' F) (hV : ∀ x, F' x → F x ∨ W.heap.size ≤ x) : RT W0 W' t F' M bx A L hb s := by
  refine ⟨h.own.next hP hU hV, h.sq.keep (fun b hl hb => hU.block b hl (fun hf => ?_)), fun b o e => Nat.lt_of_lt_of_le (h.al b o e) hU.size, hU.cell _ _ h.had h.nh, fun hf => ?_, fun b o e hf => ?_, fun hf => ?_⟩
  · rcases hb with rfl | ⟨o, e⟩
    · exact h.nb hf
    · exact h.na b o e hf
  · rcases hV _ hf with h2 | h2
    · exact h.nb h2
    · have := h.sq.lt; omega
  · rcases hV _ hf with h2 | h2
    · exact h.na b o e h2
    · have := h.al b o e; omega
  · rcases hV _ hf with h2 | h2
    · exact h.nh h2
    · have : hb < W.heap.size := World.block_lt_of_cell? _ _ h.had
      omega
theorem RT.fr {r : Bool} (h : RT W0 W t F Lc bx A L hb s) (k : FrP W t F M r e W') : ∃ F', e = .returned (.bool r) ∧ RT W0 W' t F' M bx A L hb s := by
  obtain ⟨F', he, hP, hU, hV⟩ := k
  exact ⟨F', he, h.next hP hU hV⟩
theorem RT.tk {q : Nat} (h : RT W0 W t F Lc bx A L hb s) (k : TkP W t F q M e W') : ∃ F', e = .returned (.tuple #[.int .u16 (q : Nat), .int .i64 0]) ∧ RT W0 W' t F' M bx A L hb s := by
  obtain ⟨F', he, hP, hU, hV⟩ := k
  exact ⟨F', he, h.next hP hU hV⟩
end
set_option maxRecDepth 100000 in
set_option maxHeartbeats 16000000 in
theorem walk (w : World) (hG : GloT w) (A : Option Addr) (n c : Nat) (l : List Nat) (hs : Vals w A n (l.map fun (x : Nat) => Value.int .u16 (x : Int))) (hc : n ≤ c) (hn : n ≤ 9223372036854775807) (hi : Hid (∀ x ∈ l, x ≤ 65535)) (f : Int) (hf : (Lit.int .u8 f).wf = true) (id0 : Int) (hid0 : (Lit.int .u16 id0).wf = true) :
    Calls Tryd.prog 6 #[.slice A n c, .int .u8 f, .int .u16 id0] w fun e w' => e = .returned (.bool true) ∧ Below w.heap.size w w' := by
  have HG := Lib.hid hG
  have HS : Hid (Vals w A n (l.map u16V)) := hs
  have hbd := u16_bd id0 hid0
  have hfd := u8_bd f hf
  obtain ⟨id, rfl⟩ : ∃ m : Nat, id0 = (m : Int) := ⟨id0.toNat, by omega⟩
  clear hG hs hid0 hf
  have hn9 : 1 ≤ 9 := by omega
  refine (callsIn_wide (n := 9)).1 ?_
  refine callsIn_of_wp_marks Tryd.func6 rfl trivial ?_ rfl
  refine wpIn_wide.2 ?_
  simp only [Tryd.ntmps6, List.size_toArray, List.length_cons, List.length_nil, Nat.reduceAdd, Nat.reduceSub, Array.replicate_succ, Array.replicate_zero, List.push_toArray, List.append_toArray, List.nil_append, List.cons_append]
  obtain ⟨W0, hW0⟩ : ∃ W0, W0 = ((w.alloc (.cells #[.int .u8 f] 5)).alloc (.cells #[.int .u16 (id : Nat)] 25)).alloc (.cells #[.bool false] 4) := ⟨_, rfl⟩
  have hsz0 : W0.heap.size = w.heap.size + 3 := by rw [hW0]; simp
  have hb0 : Below w.heap.size w W0 := by rw [hW0]; exact below_alloc (below_alloc (below_alloc (Below.refl _ _) _) _) _
  have k4 : Boxed W0 w.heap.size 5 (.int .u8 f) := by rw [hW0]; exact ((Boxed.new w _ _).alloc _).alloc _
  have k5 : Boxed W0 (w.heap.size + 1) 25 (.int .u16 (id : Nat)) := by
    have h := (Boxed.new (w.alloc (.cells #[.int .u8 f] 5)) 25 (.int .u16 (id : Nat))).alloc (.cells #[.bool false] 4)
    rw [World.size_alloc] at h
    rw [hW0]; exact h
  have k6 : Boxed W0 (w.heap.size + 2) 4 (.bool false) := by
    have h := Boxed.new ((w.alloc (.cells #[.int .u8 f] 5)).alloc (.cells #[.int .u16 (id : Nat)] 25)) 4 (.bool false)
    rw [World.size_alloc, World.size_alloc] at h
    rw [hW0]; exact h
  have HB0 := Lib.hid hb0
  have HK4 := Lib.hid k4
  have HK5 := Lib.hid k5
  have HK6 := Lib.hid k6
  clear hb0 k4 k5 k6
  by_cases h400 : n ≤ 400
  · have hnI : ¬ (n : Int) > 400 := by omega
    go_wp2_with fail
    rw [← hW0]
    clear hW0
    refine (iNew _).mono ?_
    intro e w1 hN
    obtain ⟨t, F, rfl, hP0⟩ := hN.own
    clear hN
    go_wp2_with fail
    go_loopw [8] (fun i wr => ∃ (k : Nat) (F : Nat → Prop) (L : List Nat), i = .int .i64 k ∧ k ≤ n ∧ L.length ≤ k ∧ OwnP W0.heap.size W0 wr t F L) (fun i _ => n - (intOf i).toNat)
    case atStart => exact ⟨0, F, [], rfl, by omega, Nat.le_refl _, hP0⟩
    case round =>
      clear hP0
      obtain ⟨k, F, L, rfl, hk, hLk, hP⟩ := hrel
      have HP := Lib.hid hP
      by_cases hlt : k < n
      · obtain ⟨b1, o1, x, rfl, hx, hat⟩ := HS.out.at_ hlt
        have hb1l : b1 < w.heap.size := World.block_lt_of_cell? _ _ hat
        rw [List.getElem?_map, Option.map_eq_some_iff] at hx
        obtain ⟨z, hz, rfl⟩ := hx
        have hz65 := hi.out z (List.mem_of_getElem? hz)
        have hcx : wr.cell? ⟨b1, o1 + k, none⟩ = some (.int .u16 (z : Int)) := (hP.below.cell (p := ⟨b1, o1 + k, none⟩) (show b1 < _ by omega)).trans ((HB0.out.cell hb1l).trans hat)
        have hkI : (k : Int) < (n : Int) := by omega
        have hk0 : (0 : Int) ≤ (k : Int) := by omega
        clear hz hat hP
        by_cases hzz : z = 0
        · subst hzz
          obtain ⟨q, hq⟩ := lst_ex L HP.out.pi.srt (fun i hi => (HP.out.pi.pos i hi).1)
          have hl : L.length < 65535 := by omega
          have HQ := Lib.hid hq
          have hlq := ins_len' q L
          clear hq
          go_wp2_with fail
          refine (iTake HP.out.pi (HG.out.below (HB0.out.trans (HP.out.below.mono (by omega)))) q _ hl HQ.out rfl).mono ?_
          intro e w4 hK4
          obtain ⟨F4, rfl, hP4⟩ := HP.out.tk hK4
          clear hK4
          go_wp2_with fail
          go_roundw
          case rel => exact ⟨k + 1, F4, insO ltN q L, by go_num, by omega, by omega, hP4⟩
          case measure => simp [intOf]; omega
        · have hzne : ((z : Int) == 0) = false := by simp; omega
          obtain ⟨s, hs⟩ : ∃ s, decide (z ∈ L) = s := ⟨_, rfl⟩
          have HSS := Lib.hid hs
          have hld : (delN z L).length ≤ L.length := List.length_filter_le _ _
          clear hs
          go_wp2_with fail
          refine (iFree_any HP.out.pi z s hz65 HSS.out).mono ?_
          intro e w4 hK4
          obtain ⟨F4, rfl, hP4⟩ := HP.out.fr hK4
          clear hK4
          go_wp2_with fail
          go_roundw
          case rel => exact ⟨k + 1, F4, delN z L, by go_num, by omega, by omega, hP4⟩
          case measure => simp [intOf]; omega
      · have hl4 : L.length ≤ 400 := by omega
        clear hP
        go_wp2_with fail
        refine (iAll HP.out.pi).mono ?_
        rintro e w5 ⟨bx, A5, rfl, hSQ, hb5, hbx, hA5⟩
        have HP5 := Lib.hid (HP.out.bl hb5)
        have HSQ := Lib.hid hSQ
        have HA5 := Lib.hid hA5
        have q5 : w5.cell? ⟨w.heap.size + 1, 0, none⟩ = some (.int .u16 (id : Nat)) := (HP5.out.below.cell (p := ⟨w.heap.size + 1, 0, none⟩) (show w.heap.size + 1 < _ by omega)).trans HK5.out.cell
        obtain ⟨s, hs⟩ : ∃ s, decide (id ∈ L) = s := ⟨_, rfl⟩
        have HSS := Lib.hid hs
        have hNF : ∀ b, F b → b < wr.heap.size := HP.out.pi.lt
        have HNF := Lib.hid hNF
        have hs5 := hb5.size
        have hsP := HP.out.size
        clear hSQ hA5 hb5 hs hNF
        go_wp2_with fail
        refine (iLen HP5.out.pi).mono ?_
        rintro e w6 ⟨rfl, rfl⟩
        go_wp2_with fail
        refine (iHas HP5.out.pi id s (by omega) HSS.out).mono ?_
        rintro e w6 ⟨rfl, hb6⟩
        obtain ⟨W7, hW7⟩ : ∃ W7, W7 = w6.alloc (.cells #[.bool s] 4) := ⟨_, rfl⟩
        have hbW7 : Below w6.heap.size w6 W7 := by rw [hW7]; exact below_alloc (Below.refl _ _) _
        have hcW7 : W7.cell? ⟨w6.heap.size, 0, none⟩ = some (.bool s) := by rw [hW7]; exact World.cell?_alloc_new _ _ _ _
        have e0 : W7.ownsRow w6.heap.size 4 1 (.slice none 0 0) 0 [] := World.ownsRow_nil _ _ _ _
        obtain ⟨Ah, ch, w8, hrun, hown, hgr, _⟩ := v_append (P := Tryd.prog) (T := 45) (ty := 45) e0 hbW7.size Tryd.underlying45 infoB rfl (by decide) (some ⟨w6.heap.size, 0, none⟩) 1 1 [.bool s] (Vals.one hcW7) (by simp [Value.oneCell']) (fun e => by cases e) (by omega)
        rw [Nat.zero_add] at hrun hown
        rw [List.nil_append] at hown
        have hb8 : Below w6.heap.size w6 w8 := hbW7.grown hgr hbW7.size (fun k hk => by cases hk)
        rw [hW7] at hrun
        obtain ⟨hb, ch2, ee, hbge, hbl, _, hcs, _, _⟩ := vrow_form1 hown (by omega)
        injection ee with ee1 ee2 ee3
        subst ee1
        have hhad : w8.cell? ⟨hb, 0, none⟩ = some (.bool s) := hcs 0 _ rfl
        have hb58 : Below w5.heap.size w5 w8 := below_more hb6 hb8
        have hs6 := hb6.size
        have hRT : RT W0 w8 t F L bx A5 L hb s := ⟨HP5.out.bl hb58, HSQ.out.below hb58, fun b o e => Nat.lt_of_lt_of_le (HA5.out b o e).2 hb58.size, hhad, fun hf => by have := HNF.out _ hf; omega, fun b o e hf => by have := HNF.out _ hf; have := (HA5.out b o e).1; omega, fun hf => by have := HNF.out _ hf; omega⟩
        have HRT := Lib.hid hRT
        have HRun := Lib.hid hrun
        have q8 : w8.cell? ⟨w.heap.size + 1, 0, none⟩ = some (.int .u16 (id : Nat)) := (hRT.own.below.cell (p := ⟨w.heap.size + 1, 0, none⟩) (show w.heap.size + 1 < _ by omega)).trans HK5.out.cell
        have hhb3 : w.heap.size + 3 ≤ hb := by omega
        clear hW7 hbW7 hcW7 e0 hown hgr hb8 hrun hbl hcs hhad hb58 hRT hb6 ee2 ee3 q5
        go_wp2_with (at_builtin; refine wpList_vapp rfl _ _ _ rfl rfl rfl HRun.out ?_)
        go_wp2_with fail
        refine (iFree_any HRT.out.own.pi id s (by omega) HSS.out).mono ?_
        intro e w9 hK9
        obtain ⟨F9, rfl, hR9⟩ := HRT.out.fr hK9
        have HR9 := Lib.hid hR9
        have hl9 : (delN id L).length ≤ 400 := by have : (delN id L).length ≤ L.length := List.length_filter_le _ _; omega
        obtain ⟨q1, hq1⟩ := lst_ex (delN id L) hR9.own.pi.srt (fun i hi => (hR9.own.pi.pos i hi).1)
        have HQ1 := Lib.hid hq1
        clear hK9 hR9 q8 hq1
        go_wp2_with fail
        refine (iTake HR9.out.own.pi (HG.out.below (HB0.out.trans (HR9.out.own.below.mono (by omega)))) q1 _ (by omega) HQ1.out rfl).mono ?_
        intro e w10 hK10
        obtain ⟨F10, rfl, hR10⟩ := HR9.out.tk hK10
        have HR10 := Lib.hid hR10
        have hl10 := ins_len' q1 (delN id L)
        obtain ⟨L10, hL10⟩ : ∃ L10, insO ltN q1 (delN id L) = L10 := ⟨_, rfl⟩
        rw [hL10] at HR10 hR10 hl10
        obtain ⟨q2, hq2⟩ := lst_ex L10 hR10.own.pi.srt (fun i hi => (hR10.own.pi.pos i hi).1)
        have HQ2 := Lib.hid hq2
        clear hK10 hR10 hq2 hL10
        go_wp2_with fail
        refine (iTake HR10.out.own.pi (HG.out.below (HB0.out.trans (HR10.out.own.below.mono (by omega)))) q2 _ (by omega) HQ2.out rfl).mono ?_
        intro e w11 hK11
        obtain ⟨F11, rfl, hR11⟩ := HR10.out.tk hK11
        have hb11 := hR11.own.below
        have hs11 := hR11.own.size
        have hRS : RS w w11 bx A5 L hb f id := ⟨HB0.out.trans (hb11.mono (by omega)), hR11.sq, fun b o e => by have := (HA5.out b o e).1; omega, by omega, hR11.al, by rw [HSS.out]; exact hR11.had, hhb3,
          (hb11.block _ (by omega)).trans HK4.out, (hb11.block _ (by omega)).trans HK5.out, (hb11.block _ (by omega)).trans HK6.out⟩
        have HRS := Lib.hid hRS
        clear hK11 hR11 hb11 hs11 hRS hl9 hl10
        go_wp2_with fail
        obtain ⟨W1, hW1⟩ : ∃ W1, W1 = w11.alloc (.cells #[.int .i64 0] 3) := ⟨_, rfl⟩
        have hbW1 : Below w11.heap.size w11 W1 := by rw [hW1]; exact below_alloc (Below.refl _ _) _
        have hs1 : W1.heap.size = w11.heap.size + 1 := by rw [hW1]; simp
        have hbox : Boxed W1 w11.heap.size 3 (.int .i64 0) := by rw [hW1]; exact Boxed.new w11 _ _
        obtain ⟨nb, hnb⟩ : ∃ nb, nb = w11.heap.size := ⟨_, rfl⟩
        have hR1 : RS w W1 bx A5 L hb f id := HRS.out.keep (fun b hl => hbW1.block b hl) hbW1.size (below_more HRS.out.below hbW1)
        have hG1 := HG.out.below hR1.below
        obtain ⟨LS, hLS⟩ := n16_of L hR1.sq.pos
        have hsg := sg_lt hR1.sq hR1.al hG1
        have HSGB : Hid (∀ b, SG bx A5 b → b < w11.heap.size) := sg_lt HRS.out.sq HRS.out.al (HG.out.below HRS.out.below)
        have hll : LS.length = L.length := by rw [← hLS, List.length_map]
        have hlL := hR1.sq.len
        have HR1 := Lib.hid hR1
        have HLS := Lib.hid hLS
        have HHB := Lib.hid hbW1
        have hww : w.heap.size + 3 ≤ w11.heap.size := by have := HRS.out.b6.lt; omega
        rw [← hW1, ← hnb]
        rw [← hnb] at hbox hs1 hww
        have HKP : Hid (∀ W, KpG (fun b => b < nb) W1 W → Below w.heap.size w W → RS w W bx A5 L hb f id) := fun W hk hB => HRS.out.keep (fun b hl => (hk.block b (by rw [hnb]; exact hl)).trans (HHB.out.block b hl)) (by have := hk.size; omega) hB
        rw [← hnb] at HSGB
        have hnb1 : nb ≤ w11.heap.size := by omega
        have hnb2 : w11.heap.size ≤ nb := by omega
        have hs1a : W1.heap.size ≤ nb + 1 := by omega
        have hs1b : nb + 1 ≤ W1.heap.size := by omega
        clear hW1 hR1 hLS hbW1 hnb hs1
        refine (wpIn_wide (n := 9)).1 ?_
        refine range_ids (d := 13) rfl HR1.out.sq hG1 HLS.out hsg
          (fun pre W => (Boxed W nb 3 (.int .i64 (pre.length : Nat)) ∧ KpG (fun b => b < nb) W1 W) ∧ Below w.heap.size w W)
          (fun c pre W => c = .exit 2 ∧ (Boxed W nb 3 (.int .i64 (pre.length : Nat)) ∧ KpG (fun b => b < nb) W1 W) ∧ Below w.heap.size w W)
          (OwnFrom.and (OwnFrom.and (Own.from (boxed_own nb 3 (fun pre : List N16 => .int .i64 (pre.length : Nat))) _) (ownFrom_kpG (fun b hb => ⟨by omega, by omega⟩))) (ownFrom_below (Nat.le_refl _) (by omega)))
          (fun c => OwnFrom.and (ownFrom_pure _ _) (OwnFrom.and (OwnFrom.and (Own.from (boxed_own nb 3 (fun pre : List N16 => .int .i64 (pre.length : Nat))) _) (ownFrom_kpG (fun b hb => ⟨by omega, by omega⟩))) (ownFrom_below (Nat.le_refl _) (by omega))))
          ⟨⟨hbox, KpG.refl _⟩, HR1.out.below⟩ ?assign ?body ?done ?stop
        case assign =>
          intro l v W K hK
          simp only [sA, sB, sC] at hK ⊢
          gi_wp2
          exact hK
        case body =>
          rintro l pre x W ⟨⟨bN, hK1⟩, hB⟩ hlt
          have HSGX := Lib.hid hsg
          clear hsg
          simp only [sA, sB, sC]
          have hR := HKP.out W hK1 hB
          have cN := bN.cell
          have fN := bN.frozen
          have c4 := hR.b4.cell
          have hpl : (pre.length : Int) < 65536 := by omega
          obtain ⟨x, hx1, hx2⟩ := x
          have hx0 : ((x : Int) == 0) = false := by simp; omega
          have hbox2 := bN.set (.int .i64 ((pre.length : Int) + 1))
          have hkk : ∀ (G : Nat → Prop), (∀ b, G b → b < nb) → KpG G W (W.setCell ⟨nb, 0, none⟩ (.int .i64 ((pre.length : Int) + 1))) := fun G hG => ⟨by simp [World.setCell], fun b hb => heap_setCell_other W ⟨nb, 0, none⟩ b _ (fun e => by have := hG b hb; have e2 : b = nb := e; omega)⟩
          have hB2 := hB.setCell (p := ⟨nb, 0, none⟩) (show w.heap.size ≤ nb by omega) (.int .i64 ((pre.length : Int) + 1))
          have hlen1 : (((pre ++ [(⟨x, hx1, hx2⟩ : N16)]).length : Nat) : Int) = (pre.length : Int) + 1 := by simp
          have HBX := Lib.hid hbox2
          have HKK := Lib.hid hkk
          have HB2 := Lib.hid hB2
          have HK1 := Lib.hid hK1
          clear hbox2 hkk hB2 hK1 bN hR
          dsimp only
          by_cases hge : f ≤ (pre.length : Int) + 1
          · gi_wp2
            exact ⟨(KeepsOthers.setCell _ _ _).from _, rfl, ⟨by rw [hlen1]; exact HBX.out, HK1.out.t (HKK.out _ (fun b h => h))⟩, HB2.out⟩
          · gi_wp2
            exact ⟨(KeepsOthers.setCell _ _ _).from _, HKK.out _ (fun b h => by have := HSGB.out b h; omega), ⟨by rw [hlen1]; exact HBX.out, HK1.out.t (HKK.out _ (fun b h => h))⟩, HB2.out⟩
        case done =>
          rintro D W hD ⟨⟨bN, hK1⟩, hB⟩ hK
          obtain ⟨m, hm⟩ : ∃ m, m = LS.length := ⟨_, rfl⟩
          have hmL : m ≤ L.length := by omega
          rw [← hm] at bN
          clear hm
          have hRS := HKP.out W hK1 hB
          have HRW := Lib.hid hRS
          have hnw : nb < W.heap.size := bN.lt
          obtain ⟨W2, hW2⟩ : ∃ W2, W2 = (W.alloc (.cells #[.slice none 0 0] 30)).alloc (.cells #[.bool false] 4) := ⟨_, rfl⟩
          have hbW2 : Below W.heap.size W W2 := by rw [hW2]; exact below_alloc (below_alloc (Below.refl _ _) _) _
          have hs2 : W2.heap.size = W.heap.size + 2 := by rw [hW2]; simp
          have hgot : Boxed W2 W.heap.size 30 (.slice none 0 0) := by rw [hW2]; exact (Boxed.new W _ _).alloc _
          have htol : Boxed W2 (W.heap.size + 1) 4 (.bool false) := by
            have h := Boxed.new (W.alloc (.cells #[.slice none 0 0] 30)) 4 (.bool false)
            rw [World.size_alloc] at h
            rw [hW2]; exact h
          have HGOT := Lib.hid hgot
          have HTOL := Lib.hid htol
          have HB2 := Lib.hid hbW2
          have HBN := Lib.hid bN
          have HKD := Lib.hid hK
          have hs2a : W2.heap.size ≤ W.heap.size + 2 := by omega
          have hs2b : W.heap.size + 2 ≤ W2.heap.size := by omega
          have HK1 := Lib.hid hK1
          have HSGX := Lib.hid hsg
          clear hRS hgot htol hbW2 bN hK hs2 hK1 hsg hB
          go_wp2_with fail
          rw [← hW2]
          clear hW2
          have hR2 : RS w W2 bx A5 L hb f id := HRW.out.keep (fun b hl => HB2.out.block b hl) HB2.out.size (below_more HRW.out.below HB2.out)
          have HR2 := Lib.hid hR2
          have HSG2 : Hid (∀ b, SG bx A5 b → b < W.heap.size) := sg_lt HRW.out.sq HRW.out.al (HG.out.below HRW.out.below)
          have HKP2 : Hid (∀ X, KpG (fun b => b < W.heap.size) W2 X → Below w.heap.size w X → RS w X bx A5 L hb f id) := fun X hk hB => HRW.out.keep (fun b hl => (hk.block b hl).trans (HB2.out.block b hl)) (by have := hk.size; omega) hB
          have hwW : w.heap.size + 3 ≤ W.heap.size := by omega
          refine (wpIn_wide (n := 9)).1 ?_
          refine range_ids (d := 16) rfl HR2.out.sq (HG.out.below HR2.out.below) HLS.out (fun b hb => by have := HSG2.out b hb; omega)
            (fun pre X => ((((∃ v, Boxed X W.heap.size 30 v ∧ X.ownsRow W.heap.size 25 1 v (valN pre).length ((valN pre).map u16V) ∧ ∀ b, v.ownBlock = some b → W2.heap.size ≤ b) ∧ Boxed X (W.heap.size + 1) 4 (.bool (decide (id ∈ valN pre)))) ∧ KpG (fun b => b < W.heap.size) W2 X) ∧ Srt ltN (valN pre) ∧ Below w.heap.size w X))
            (fun c pre X => c = .ret ∧ ¬ Srt ltN (valN pre))
            (OwnFrom.and (OwnFrom.and (OwnFrom.and (Own.from (holdsRow_own W.heap.size W.heap.size 30 25 1 (fun pre => (valN pre).length) (fun pre => (valN pre).map u16V) (fun _ v => ∀ b, v.ownBlock = some b → W2.heap.size ≤ b)) _) (Own.from (boxed_own (W.heap.size + 1) 4 (fun pre : List N16 => .bool (decide (id ∈ valN pre)))) _)) (ownFrom_kpG (fun b hb => ⟨by omega, by omega⟩))) (OwnFrom.and (ownFrom_pure _ _) (ownFrom_below (Nat.le_refl _) (by omega))))
            (fun c => OwnFrom.and (ownFrom_pure _ _) (ownFrom_pure _ _))
            ⟨⟨⟨⟨_, HGOT.out, World.ownsRow_nil _ _ _ _, fun b e => by cases e⟩, HTOL.out⟩, KpG.refl _⟩, List.Pairwise.nil, HR2.out.below⟩ ?assign2 ?body2 ?done2 ?stop2
          case assign2 =>
            intro l v W K hK
            simp only [sA, sB, sC] at hK ⊢
            gi_wp2
            exact hK
          case body2 =>
            rintro l pre x X ⟨⟨⟨⟨v, bL1, hrow, hvb⟩, bT⟩, hK2⟩, hSr, hB⟩ hlt
            simp only [sA, sB, sC]
            obtain ⟨x, hx1, hx2⟩ := x
            have hR := HKP2.out X hK2 hB
            have c5 := hR.b5.cell
            have c6 := hR.b6.cell
            have f6 := hR.b6.frozen
            have hx0 : ((x : Int) == 0) = false := by simp; omega
            obtain ⟨P, hP⟩ : ∃ P, valN pre = P := ⟨_, rfl⟩
            obtain ⟨N, hN⟩ : ∃ N, P.length = N := ⟨_, rfl⟩
            have hNl : N ≤ 65535 := by
              have h1 : (valN pre).length = pre.length := List.length_map ..
              rw [hP, hN] at h1
              omega
            rw [hP] at hrow bT hSr
            rw [hN] at hrow
            obtain ⟨t0, ht0⟩ : ∃ t0, decide (id ∈ P) = t0 := ⟨_, rfl⟩
            rw [ht0] at bT
            obtain ⟨r, hr⟩ : ∃ r, decide (x = id) = r := ⟨_, rfl⟩
            have heq : ((x : Int) == (id : Int)) = r := by
              rw [← hr]
              by_cases e : x = id
              · simp [e]
              · simp [e]; omega
            have HPV := Lib.hid hP
            have HN := Lib.hid hN
            have HT0 := Lib.hid ht0
            have HR0 := Lib.hid hr
            have HVB := Lib.hid hvb
            have HROW0 := Lib.hid hrow
            have HBT := Lib.hid bT
            have HK2 := Lib.hid hK2
            have HBB := Lib.hid hB
            dsimp only
            by_cases hN0 : N = 0
            · have hPn : P = [] := List.eq_nil_of_length_eq_zero (by omega)
              have HSN : Hid (Srt ltN (P ++ [x])) := by show Srt _ _; rw [hPn]; exact List.pairwise_singleton _ _
              obtain ⟨AV, c3, rfl, _, _, _, _⟩ := vrow_form hrow
              have HROW : Hid (X.ownsRow W.heap.size 25 1 (.slice AV N c3) N (P.map u16V)) := HROW0
              have HBL := Lib.hid bL1
              have hNg : ¬ (N : Int) > 0 := by omega
              clear hP hN ht0 hr hvb hrow bT hK2 hB bL1 hPn hN0 hSr hR
              cases t0 with
              | true => 
                obtain ⟨X1, hX1⟩ : ∃ X1, X1 = X.setCell ⟨W.heap.size + 1, 0, none⟩ (.bool true) := ⟨_, rfl⟩
                have hs1 : X1.heap.size = X.heap.size := by rw [hX1]; simp [World.setCell]
                have bL2 : Boxed X1 W.heap.size 30 (.slice AV N c3) := by rw [hX1]; exact (heap_setCell_other X ⟨W.heap.size + 1, 0, none⟩ W.heap.size _ (by show W.heap.size ≠ W.heap.size + 1; omega)).trans HBL.out
                have bT2 : Boxed X1 (W.heap.size + 1) 4 (.bool true) := by rw [hX1]; exact HBT.out.set _
                have hrow2 : X1.ownsRow W.heap.size 25 1 (.slice AV N c3) N (P.map u16V) := vrow_keep HROW.out (fun b hb => by rw [hX1]; exact heap_setCell_other X ⟨W.heap.size + 1, 0, none⟩ b _ (by have := HVB.out b hb; show b ≠ W.heap.size + 1; omega))
                have hnew : (X1.alloc (.cells #[.int .u16 (x : Nat)] 25)).cell? ⟨X.heap.size, 0, none⟩ = some (.int .u16 (x : Nat)) := by rw [← hs1]; exact World.cell?_alloc_new _ _ _ _
                have hXl := HBL.out.lt
                obtain ⟨A', c', w7, hrun, hown7, hgr, hat⟩ := v_append (P := Tryd.prog) (T := 30) (ty := 30) (hrow2.alloc (.cells #[.int .u16 (x : Nat)] 25)) (by simp; omega) Tryd.underlying30 info16 rfl (by decide) (some ⟨X.heap.size, 0, none⟩) 1 1 [u16V x] (Vals.one hnew) (by simp [u16V, Value.oneCell']) (fun e => by cases e) (by omega)
                obtain ⟨b7, a2, a3, a4, a5⟩ := bL2.appended (by decide) hrow2 (by omega) (Nat.le_refl _) hown7 hgr
                have bT7 : Boxed w7 (W.heap.size + 1) 4 (.bool true) := (bT2.alloc _).kept hgr (fun e => by have := HVB.out _ e.symm; omega)
                have HP1 : Hid (KpG (fun b => b < W.heap.size) X (w7.setCell ⟨W.heap.size, 0, none⟩ (.slice A' (N + 1) c'))) := by
                  refine KpG.t (B := X1) ⟨by omega, fun b hb => by rw [hX1]; exact heap_setCell_other X ⟨W.heap.size + 1, 0, none⟩ b _ (by show b ≠ W.heap.size + 1; omega)⟩ (kpG_app (fun b hb => ⟨by omega, by omega, fun e => by have := HVB.out b e; omega⟩) hgr)
                have HI2 : Hid (((((∃ v, Boxed (w7.setCell ⟨W.heap.size, 0, none⟩ (.slice A' (N + 1) c')) W.heap.size 30 v ∧ (w7.setCell ⟨W.heap.size, 0, none⟩ (.slice A' (N + 1) c')).ownsRow W.heap.size 25 1 v (valN (pre ++ [(⟨x, hx1, hx2⟩ : N16)])).length ((valN (pre ++ [(⟨x, hx1, hx2⟩ : N16)])).map u16V) ∧ ∀ b, v.ownBlock = some b → W2.heap.size ≤ b) ∧ Boxed (w7.setCell ⟨W.heap.size, 0, none⟩ (.slice A' (N + 1) c')) (W.heap.size + 1) 4 (.bool (decide (id ∈ valN (pre ++ [(⟨x, hx1, hx2⟩ : N16)]))))) ∧ KpG (fun b => b < W.heap.size) W2 (w7.setCell ⟨W.heap.size, 0, none⟩ (.slice A' (N + 1) c'))) ∧ Srt ltN (valN (pre ++ [(⟨x, hx1, hx2⟩ : N16)])) ∧ Below w.heap.size w (w7.setCell ⟨W.heap.size, 0, none⟩ (.slice A' (N + 1) c')))) := by
                  have e1 : valN (pre ++ [(⟨x, hx1, hx2⟩ : N16)]) = P ++ [x] := by rw [valN_app, HPV.out]
                  have e2 : (P ++ [x]).length = N + 1 := by rw [List.length_append, HN.out]; rfl
                  rw [e1, e2]
                  refine ⟨⟨⟨⟨_, a2, by rw [List.map_append]; exact a3, fun b hb => ?_⟩, ?_⟩, HK2.out.t HP1.out⟩, HSN.out, ?_⟩
                  · rcases hat with h | h
                    · exact HVB.out b (h.symm.trans hb)
                    · rw [h] at hb
                      cases hb
                      simp; have := HK2.out.size; omega
                  · rw [told_dec id x P _ _ HT0.out HR0.out]
                    exact (heap_setCell_other w7 ⟨W.heap.size, 0, none⟩ (W.heap.size + 1) _ (by show W.heap.size + 1 ≠ W.heap.size; omega)).trans bT7
                  · have hB1 : Below w.heap.size w X1 := by rw [hX1]; exact HBB.out.setCell (p := ⟨W.heap.size + 1, 0, none⟩) (show w.heap.size ≤ W.heap.size + 1 by omega) _
                    exact hB1.trans (a5.mono (by omega))
                have HKO : Hid (KeepsFrom W2.heap.size X (w7.setCell ⟨W.heap.size, 0, none⟩ (.slice A' (N + 1) c'))) := by
                  have h1 : KeepsOthers X X1 := by rw [hX1]; exact KeepsOthers.setCell _ _ _
                  exact (h1.trans a4).from _
                have hgc := b7.cell
                have hgf := b7.frozen
                rw [hX1] at hrun
                have HRUN := Lib.hid hrun
                have cL := HBL.out.cell
                have cT := HBT.out.cell
                have fT := HBT.out.frozen
                clear hX1 hs1 bL2 bT2 hrow2 hnew hrun hown7 hgr hat b7 a2 a3 a4 a5 bT7
                gi_wp2_with (gi_at_builtin; refine wpListIn_vapp rfl _ _ _ rfl rfl rfl HRUN.out ?_)
                exact ⟨HKO.out, ⟨HP1.out.size, fun b hb => HP1.out.block b (HSG2.out b hb)⟩, HI2.out⟩
              | false =>
                obtain ⟨X1, hX1⟩ : ∃ X1, X1 = X.setCell ⟨W.heap.size + 1, 0, none⟩ (.bool r) := ⟨_, rfl⟩
                have hs1 : X1.heap.size = X.heap.size := by rw [hX1]; simp [World.setCell]
                have bL2 : Boxed X1 W.heap.size 30 (.slice AV N c3) := by rw [hX1]; exact (heap_setCell_other X ⟨W.heap.size + 1, 0, none⟩ W.heap.size _ (by show W.heap.size ≠ W.heap.size + 1; omega)).trans HBL.out
                have bT2 : Boxed X1 (W.heap.size + 1) 4 (.bool r) := by rw [hX1]; exact HBT.out.set _
                have hrow2 : X1.ownsRow W.heap.size 25 1 (.slice AV N c3) N (P.map u16V) := vrow_keep HROW.out (fun b hb => by rw [hX1]; exact heap_setCell_other X ⟨W.heap.size + 1, 0, none⟩ b _ (by have := HVB.out b hb; show b ≠ W.heap.size + 1; omega))
                have hnew : (X1.alloc (.cells #[.int .u16 (x : Nat)] 25)).cell? ⟨X.heap.size, 0, none⟩ = some (.int .u16 (x : Nat)) := by rw [← hs1]; exact World.cell?_alloc_new _ _ _ _
                have hXl := HBL.out.lt
                obtain ⟨A', c', w7, hrun, hown7, hgr, hat⟩ := v_append (P := Tryd.prog) (T := 30) (ty := 30) (hrow2.alloc (.cells #[.int .u16 (x : Nat)] 25)) (by simp; omega) Tryd.underlying30 info16 rfl (by decide) (some ⟨X.heap.size, 0, none⟩) 1 1 [u16V x] (Vals.one hnew) (by simp [u16V, Value.oneCell']) (fun e => by cases e) (by omega)
                obtain ⟨b7, a2, a3, a4, a5⟩ := bL2.appended (by decide) hrow2 (by omega) (Nat.le_refl _) hown7 hgr
                have bT7 : Boxed w7 (W.heap.size + 1) 4 (.bool r) := (bT2.alloc _).kept hgr (fun e => by have := HVB.out _ e.symm; omega)
                have HP1 : Hid (KpG (fun b => b < W.heap.size) X (w7.setCell ⟨W.heap.size, 0, none⟩ (.slice A' (N + 1) c'))) := by
                  refine KpG.t (B := X1) ⟨by omega, fun b hb => by rw [hX1]; exact heap_setCell_other X ⟨W.heap.size + 1, 0, none⟩ b _ (by show b ≠ W.heap.size + 1; omega)⟩ (kpG_app (fun b hb => ⟨by omega, by omega, fun e => by have := HVB.out b e; omega⟩) hgr)
                have HI2 : Hid (((((∃ v, Boxed (w7.setCell ⟨W.heap.size, 0, none⟩ (.slice A' (N + 1) c')) W.heap.size 30 v ∧ (w7.setCell ⟨W.heap.size, 0, none⟩ (.slice A' (N + 1) c')).ownsRow W.heap.size 25 1 v (valN (pre ++ [(⟨x, hx1, hx2⟩ : N16)])).length ((valN (pre ++ [(⟨x, hx1, hx2⟩ : N16)])).map u16V) ∧ ∀ b, v.ownBlock = some b → W2.heap.size ≤ b) ∧ Boxed (w7.setCell ⟨W.heap.size, 0, none⟩ (.slice A' (N + 1) c')) (W.heap.size + 1) 4 (.bool (decide (id ∈ valN (pre ++ [(⟨x, hx1, hx2⟩ : N16)]))))) ∧ KpG (fun b => b < W.heap.size) W2 (w7.setCell ⟨W.heap.size, 0, none⟩ (.slice A' (N + 1) c'))) ∧ Srt ltN (valN (pre ++ [(⟨x, hx1, hx2⟩ : N16)])) ∧ Below w.heap.size w (w7.setCell ⟨W.heap.size, 0, none⟩ (.slice A' (N + 1) c')))) := by
                  have e1 : valN (pre ++ [(⟨x, hx1, hx2⟩ : N16)]) = P ++ [x] := by rw [valN_app, HPV.out]
                  have e2 : (P ++ [x]).length = N + 1 := by rw [List.length_append, HN.out]; rfl
                  rw [e1, e2]
                  refine ⟨⟨⟨⟨_, a2, by rw [List.map_append]; exact a3, fun b hb => ?_⟩, ?_⟩, HK2.out.t HP1.out⟩, HSN.out, ?_⟩
                  · rcases hat with h | h
                    · exact HVB.out b (h.symm.trans hb)
                    · rw [h] at hb
                      cases hb
                      simp; have := HK2.out.size; omega
                  · rw [told_dec id x P _ _ HT0.out HR0.out]
                    exact (heap_setCell_other w7 ⟨W.heap.size, 0, none⟩ (W.heap.size + 1) _ (by show W.heap.size + 1 ≠ W.heap.size; omega)).trans bT7
                  · have hB1 : Below w.heap.size w X1 := by rw [hX1]; exact HBB.out.setCell (p := ⟨W.heap.size + 1, 0, none⟩) (show w.heap.size ≤ W.heap.size + 1 by omega) _
                    exact hB1.trans (a5.mono (by omega))
                have HKO : Hid (KeepsFrom W2.heap.size X (w7.setCell ⟨W.heap.size, 0, none⟩ (.slice A' (N + 1) c'))) := by
                  have h1 : KeepsOthers X X1 := by rw [hX1]; exact KeepsOthers.setCell _ _ _
                  exact (h1.trans a4).from _
                have hgc := b7.cell
                have hgf := b7.frozen
                rw [hX1] at hrun
                have HRUN := Lib.hid hrun
                have cL := HBL.out.cell
                have cT := HBT.out.cell
                have fT := HBT.out.frozen
                clear hX1 hs1 bL2 bT2 hrow2 hnew hrun hown7 hgr hat b7 a2 a3 a4 a5 bT7
                gi_wp2_with (gi_at_builtin; refine wpListIn_vapp rfl _ _ _ rfl rfl rfl HRUN.out ?_)
                exact ⟨HKO.out, ⟨HP1.out.size, fun b hb => HP1.out.block b (HSG2.out b hb)⟩, HI2.out⟩
            · obtain ⟨N', hN'⟩ : ∃ N', N = N' + 1 := ⟨N - 1, by omega⟩
              rcases List.eq_nil_or_concat P with hPn | ⟨ini, y, hPy⟩ <;> try rw [List.concat_eq_append] at hPy
              · rw [hPn] at hN; simp at hN; omega
              have hini : ini.length = N' := by rw [hPy, List.length_append] at hN; simp at hN; omega
              obtain ⟨gr, c3, rfl, _, _, _, hcs, _, _⟩ := vrow_form1 hrow (by omega)
              have hcy : X.cell? ⟨gr, N', none⟩ = some (.int .u16 (y : Int)) := hcs N' (u16V y) (by rw [hPy, List.map_append, List.getElem?_append_right (by rw [List.length_map]; omega), List.length_map, hini, Nat.sub_self]; rfl)
              have hNg : (N : Int) > 0 := by omega
              have hidx : (N : Int) - 1 = (N' : Int) := by omega
              have hNI : (N' : Int) < (N : Int) := by omega
              have hNI0 : (0 : Int) ≤ (N' : Int) := by omega
              obtain ⟨AV, hAV⟩ : ∃ AV : Option Addr, AV = some ⟨gr, 0, none⟩ := ⟨_, rfl⟩
              have HAV := Lib.hid hAV
              have HBL1 := Lib.hid bL1
              have HROW1 := Lib.hid hrow
              by_cases hyx : y < x
              · have HSN : Hid (Srt ltN (P ++ [x])) := by show Srt _ _; rw [hPy]; rw [hPy] at hSr; exact srt_snoc hSr hyx
                have hyI : ¬ (y : Int) ≥ (x : Int) := by omega
                clear hP hN ht0 hr hvb hrow bT hK2 hB bL1 hN0 hSr hR hN' hPy hini hcs hyx hAV AV HAV
                cases t0 with
                | true =>
                  obtain ⟨X1, hX1⟩ : ∃ X1, X1 = X.setCell ⟨W.heap.size + 1, 0, none⟩ (.bool true) := ⟨_, rfl⟩
                  have hs1 : X1.heap.size = X.heap.size := by rw [hX1]; simp [World.setCell]
                  have bL2 : Boxed X1 W.heap.size 30 (.slice (some ⟨gr, 0, none⟩) N c3) := by rw [hX1]; exact (heap_setCell_other X ⟨W.heap.size + 1, 0, none⟩ W.heap.size _ (by show W.heap.size ≠ W.heap.size + 1; omega)).trans HBL1.out
                  have bT2 : Boxed X1 (W.heap.size + 1) 4 (.bool true) := by rw [hX1]; exact HBT.out.set _
                  have hrow2 : X1.ownsRow W.heap.size 25 1 (.slice (some ⟨gr, 0, none⟩) N c3) N (P.map u16V) := vrow_keep HROW1.out (fun b hb => by rw [hX1]; exact heap_setCell_other X ⟨W.heap.size + 1, 0, none⟩ b _ (by have := HVB.out b hb; show b ≠ W.heap.size + 1; omega))
                  have hnew : (X1.alloc (.cells #[.int .u16 (x : Nat)] 25)).cell? ⟨X.heap.size, 0, none⟩ = some (.int .u16 (x : Nat)) := by rw [← hs1]; exact World.cell?_alloc_new _ _ _ _
                  have hXl := HBL1.out.lt
                  obtain ⟨A', c', w7, hrun, hown7, hgr, hat⟩ := v_append (P := Tryd.prog) (T := 30) (ty := 30) (hrow2.alloc (.cells #[.int .u16 (x : Nat)] 25)) (by simp; omega) Tryd.underlying30 info16 rfl (by decide) (some ⟨X.heap.size, 0, none⟩) 1 1 [u16V x] (Vals.one hnew) (by simp [u16V, Value.oneCell']) (fun e => by cases e) (by omega)
                  obtain ⟨b7, a2, a3, a4, a5⟩ := bL2.appended (by decide) hrow2 (by omega) (Nat.le_refl _) hown7 hgr
                  have bT7 : Boxed w7 (W.heap.size + 1) 4 (.bool true) := (bT2.alloc _).kept hgr (fun e => by have := HVB.out _ e.symm; omega)
                  have HP1 : Hid (KpG (fun b => b < W.heap.size) X (w7.setCell ⟨W.heap.size, 0, none⟩ (.slice A' (N + 1) c'))) := by
                    refine KpG.t (B := X1) ⟨by omega, fun b hb => by rw [hX1]; exact heap_setCell_other X ⟨W.heap.size + 1, 0, none⟩ b _ (by show b ≠ W.heap.size + 1; omega)⟩ (kpG_app (fun b hb => ⟨by omega, by omega, fun e => by have := HVB.out b e; omega⟩) hgr)
                  have HI2 : Hid (((((∃ v, Boxed (w7.setCell ⟨W.heap.size, 0, none⟩ (.slice A' (N + 1) c')) W.heap.size 30 v ∧ (w7.setCell ⟨W.heap.size, 0, none⟩ (.slice A' (N + 1) c')).ownsRow W.heap.size 25 1 v (valN (pre ++ [(⟨x, hx1, hx2⟩ : N16)])).length ((valN (pre ++ [(⟨x, hx1, hx2⟩ : N16)])).map u16V) ∧ ∀ b, v.ownBlock = some b → W2.heap.size ≤ b) ∧ Boxed (w7.setCell ⟨W.heap.size, 0, none⟩ (.slice A' (N + 1) c')) (W.heap.size + 1) 4 (.bool (decide (id ∈ valN (pre ++ [(⟨x, hx1, hx2⟩ : N16)]))))) ∧ KpG (fun b => b < W.heap.size) W2 (w7.setCell ⟨W.heap.size, 0, none⟩ (.slice A' (N + 1) c'))) ∧ Srt ltN (valN (pre ++ [(⟨x, hx1, hx2⟩ : N16)])) ∧ Below w.heap.size w (w7.setCell ⟨W.heap.size, 0, none⟩ (.slice A' (N + 1) c')))) := by
                    have e1 : valN (pre ++ [(⟨x, hx1, hx2⟩ : N16)]) = P ++ [x] := by rw [valN_app, HPV.out]
                    have e2 : (P ++ [x]).length = N + 1 := by rw [List.length_append, HN.out]; rfl
                    rw [e1, e2]
                    refine ⟨⟨⟨⟨_, a2, by rw [List.map_append]; exact a3, fun b hb => ?_⟩, ?_⟩, HK2.out.t HP1.out⟩, HSN.out, ?_⟩
                    · rcases hat with h | h
                      · exact HVB.out b (h.symm.trans hb)
                      · rw [h] at hb
                        cases hb
                        simp; have := HK2.out.size; omega
                    · rw [told_dec id x P _ _ HT0.out HR0.out]
                      exact (heap_setCell_other w7 ⟨W.heap.size, 0, none⟩ (W.heap.size + 1) _ (by show W.heap.size + 1 ≠ W.heap.size; omega)).trans bT7
                    · have hB1 : Below w.heap.size w X1 := by rw [hX1]; exact HBB.out.setCell (p := ⟨W.heap.size + 1, 0, none⟩) (show w.heap.size ≤ W.heap.size + 1 by omega) _
                      exact hB1.trans (a5.mono (by omega))
                  have HKO : Hid (KeepsFrom W2.heap.size X (w7.setCell ⟨W.heap.size, 0, none⟩ (.slice A' (N + 1) c'))) := by
                    have h1 : KeepsOthers X X1 := by rw [hX1]; exact KeepsOthers.setCell _ _ _
                    exact (h1.trans a4).from _
                  have hgc := b7.cell
                  have hgf := b7.frozen
                  rw [hX1] at hrun
                  have HRUN := Lib.hid hrun
                  have cL := HBL1.out.cell
                  have cT := HBT.out.cell
                  have fT := HBT.out.frozen
                  clear hX1 hs1 bL2 bT2 hrow2 hnew hrun hown7 hgr hat b7 a2 a3 a4 a5 bT7
                  gi_wp2_with (gi_at_builtin; refine wpListIn_vapp rfl _ _ _ rfl rfl rfl HRUN.out ?_)
                  exact ⟨HKO.out, ⟨HP1.out.size, fun b hb => HP1.out.block b (HSG2.out b hb)⟩, HI2.out⟩
                | false =>
                  obtain ⟨X1, hX1⟩ : ∃ X1, X1 = X.setCell ⟨W.heap.size + 1, 0, none⟩ (.bool r) := ⟨_, rfl⟩
                  have hs1 : X1.heap.size = X.heap.size := by rw [hX1]; simp [World.setCell]
                  have bL2 : Boxed X1 W.heap.size 30 (.slice (some ⟨gr, 0, none⟩) N c3) := by rw [hX1]; exact (heap_setCell_other X ⟨W.heap.size + 1, 0, none⟩ W.heap.size _ (by show W.heap.size ≠ W.heap.size + 1; omega)).trans HBL1.out
                  have bT2 : Boxed X1 (W.heap.size + 1) 4 (.bool r) := by rw [hX1]; exact HBT.out.set _
                  have hrow2 : X1.ownsRow W.heap.size 25 1 (.slice (some ⟨gr, 0, none⟩) N c3) N (P.map u16V) := vrow_keep HROW1.out (fun b hb => by rw [hX1]; exact heap_setCell_other X ⟨W.heap.size + 1, 0, none⟩ b _ (by have := HVB.out b hb; show b ≠ W.heap.size + 1; omega))
                  have hnew : (X1.alloc (.cells #[.int .u16 (x : Nat)] 25)).cell? ⟨X.heap.size, 0, none⟩ = some (.int .u16 (x : Nat)) := by rw [← hs1]; exact World.cell?_alloc_new _ _ _ _
                  have hXl := HBL1.out.lt
                  obtain ⟨A', c', w7, hrun, hown7, hgr, hat⟩ := v_append (P := Tryd.prog) (T := 30) (ty := 30) (hrow2.alloc (.cells #[.int .u16 (x : Nat)] 25)) (by simp; omega) Tryd.underlying30 info16 rfl (by decide) (some ⟨X.heap.size, 0, none⟩) 1 1 [u16V x] (Vals.one hnew) (by simp [u16V, Value.oneCell']) (fun e => by cases e) (by omega)
                  obtain ⟨b7, a2, a3, a4, a5⟩ := bL2.appended (by decide) hrow2 (by omega) (Nat.le_refl _) hown7 hgr
                  have bT7 : Boxed w7 (W.heap.size + 1) 4 (.bool r) := (bT2.alloc _).kept hgr (fun e => by have := HVB.out _ e.symm; omega)
                  have HP1 : Hid (KpG (fun b => b < W.heap.size) X (w7.setCell ⟨W.heap.size, 0, none⟩ (.slice A' (N + 1) c'))) := by
                    refine KpG.t (B := X1) ⟨by omega, fun b hb => by rw [hX1]; exact heap_setCell_other X ⟨W.heap.size + 1, 0, none⟩ b _ (by show b ≠ W.heap.size + 1; omega)⟩ (kpG_app (fun b hb => ⟨by omega, by omega, fun e => by have := HVB.out b e; omega⟩) hgr)
                  have HI2 : Hid (((((∃ v, Boxed (w7.setCell ⟨W.heap.size, 0, none⟩ (.slice A' (N + 1) c')) W.heap.size 30 v ∧ (w7.setCell ⟨W.heap.size, 0, none⟩ (.slice A' (N + 1) c')).ownsRow W.heap.size 25 1 v (valN (pre ++ [(⟨x, hx1, hx2⟩ : N16)])).length ((valN (pre ++ [(⟨x, hx1, hx2⟩ : N16)])).map u16V) ∧ ∀ b, v.ownBlock = some b → W2.heap.size ≤ b) ∧ Boxed (w7.setCell ⟨W.heap.size, 0, none⟩ (.slice A' (N + 1) c')) (W.heap.size + 1) 4 (.bool (decide (id ∈ valN (pre ++ [(⟨x, hx1, hx2⟩ : N16)]))))) ∧ KpG (fun b => b < W.heap.size) W2 (w7.setCell ⟨W.heap.size, 0, none⟩ (.slice A' (N + 1) c'))) ∧ Srt ltN (valN (pre ++ [(⟨x, hx1, hx2⟩ : N16)])) ∧ Below w.heap.size w (w7.setCell ⟨W.heap.size, 0, none⟩ (.slice A' (N + 1) c')))) := by
                    have e1 : valN (pre ++ [(⟨x, hx1, hx2⟩ : N16)]) = P ++ [x] := by rw [valN_app, HPV.out]
                    have e2 : (P ++ [x]).length = N + 1 := by rw [List.length_append, HN.out]; rfl
                    rw [e1, e2]
                    refine ⟨⟨⟨⟨_, a2, by rw [List.map_append]; exact a3, fun b hb => ?_⟩, ?_⟩, HK2.out.t HP1.out⟩, HSN.out, ?_⟩
                    · rcases hat with h | h
                      · exact HVB.out b (h.symm.trans hb)
                      · rw [h] at hb
                        cases hb
                        simp; have := HK2.out.size; omega
                    · rw [told_dec id x P _ _ HT0.out HR0.out]
                      exact (heap_setCell_other w7 ⟨W.heap.size, 0, none⟩ (W.heap.size + 1) _ (by show W.heap.size + 1 ≠ W.heap.size; omega)).trans bT7
                    · have hB1 : Below w.heap.size w X1 := by rw [hX1]; exact HBB.out.setCell (p := ⟨W.heap.size + 1, 0, none⟩) (show w.heap.size ≤ W.heap.size + 1 by omega) _
                      exact hB1.trans (a5.mono (by omega))
                  have HKO : Hid (KeepsFrom W2.heap.size X (w7.setCell ⟨W.heap.size, 0, none⟩ (.slice A' (N + 1) c'))) := by
                    have h1 : KeepsOthers X X1 := by rw [hX1]; exact KeepsOthers.setCell _ _ _
                    exact (h1.trans a4).from _
                  have hgc := b7.cell
                  have hgf := b7.frozen
                  rw [hX1] at hrun
                  have HRUN := Lib.hid hrun
                  have cL := HBL1.out.cell
                  have cT := HBT.out.cell
                  have fT := HBT.out.frozen
                  clear hX1 hs1 bL2 bT2 hrow2 hnew hrun hown7 hgr hat b7 a2 a3 a4 a5 bT7
                  gi_wp2_with (gi_at_builtin; refine wpListIn_vapp rfl _ _ _ rfl rfl rfl HRUN.out ?_)
                  exact ⟨HKO.out, ⟨HP1.out.size, fun b hb => HP1.out.block b (HSG2.out b hb)⟩, HI2.out⟩
              · have HSN : Hid (¬ Srt ltN (P ++ [x])) := by show ¬ _; rw [hPy]; exact not_snoc hyx
                have hyI : (y : Int) ≥ (x : Int) := by omega
                have cL := bL1.cell
                clear hP hN ht0 hr hvb hrow bT hK2 hB bL1 hN0 hSr hR hN' hPy hini hcs hyx hAV AV HAV heq
                gi_wp2
                exact ⟨(KeepsOthers.setCell _ _ _).from _, rfl, by rw [valN_app, HPV.out]; exact HSN.out⟩
          case done2 =>
            rintro D2 X hD2 ⟨⟨⟨⟨v, bL1, hrow, hvb⟩, bT⟩, hK2⟩, hSr, hB⟩ hKD2
            have hR := HKP2.out X hK2 hB
            have hvl : valN LS = L := HLS.out
            rw [hvl] at hrow bT
            obtain ⟨AV, c3, rfl, _, _, _, _⟩ := vrow_form hrow
            have hDW : D < W.heap.size := (Array.getElem?_eq_some_iff.1 HKD.out).1
            have hold : ∀ b, b < W.heap.size → X.heap[b]? = W.heap[b]? := fun b hl => (hK2.block b hl).trans (HB2.out.block b hl)
            have bN : Boxed X nb 3 (.int .i64 (m : Nat)) := (hold nb hnw).trans HBN.out
            have hKD1 : X.heap[D]? = some (.deferred (some [])) := (hold D hDW).trans HKD.out
            have hXW : W2.heap.size ≤ X.heap.size := hK2.size
            have hmI : (m : Int) ≤ (L.length : Int) := by omega
            obtain ⟨s9, hs9⟩ : ∃ s9, decide (id ∈ L) = s9 := ⟨_, rfl⟩
            have hhad := hR.had
            rw [hs9] at bT hhad
            have hss : (s9 == s9) = true := by simp
            have hll2 : ((L.length : Int) == (L.length : Int)) = true := by simp
            have HS9 : Hid ((X.drew.cell? ⟨W.heap.size, 0, none⟩ = some (.slice AV L.length c3) ∧ X.drew.cell? ⟨W.heap.size + 1, 0, none⟩ = some (.bool s9) ∧ X.drew.cell? ⟨hb, 0, none⟩ = some (.bool s9) ∧ X.drew.cell? ⟨nb, 0, none⟩ = some (.int .i64 (m : Nat))) ∧ ∃ bb, Boxed X.drew (w.heap.size + 2) 4 (.bool bb)) := ⟨⟨bL1.cell, bT.cell, hhad, bN.cell⟩, _, hR.b6⟩
            have HHS := Lib.hid hs9
            have HBX := Lib.hid hB
            have HKD1 := Lib.hid hKD1
            have HKD2 := Lib.hid hKD2
            have hXl := hR.b6.lt
            have hhb := hR.hbl
            clear hR hvl hold bN hKD1 hKD2 hs9 hhad bL1 hrow hvb bT hK2 hSr hB
            go_wp2_with fail
            refine noPanic ?_
            refine wp_region_held_drew (S := (fun w' => (w'.cell? ⟨W.heap.size, 0, none⟩ = some (.slice AV L.length c3) ∧ w'.cell? ⟨W.heap.size + 1, 0, none⟩ = some (.bool s9) ∧ w'.cell? ⟨hb, 0, none⟩ = some (.bool s9) ∧ w'.cell? ⟨nb, 0, none⟩ = some (.int .i64 (m : Nat))) ∧ ∃ bb, Boxed w' (w.heap.size + 2) 4 (.bool bb))) (by kernel_rfl) (HS9.out) (fun hHeld => ?_)
            refine tkY 0 oIdRangeLaw1 ?vv11_81_0 rfl (by kernel_rfl) (by kernel_rfl) (by kernel_rfl) (fun _ _ _ h => h) (by rfl) ?hy11_81_0 (by assumption) ?rest11_81_0
            case hy11_81_0 => (intro w hSw; unfold oIdRangeLaw1; (try dsimp only at hSw); have q9 := hSw.1.1; clear hSw; go_simp; all_goals with_reducible rfl)
            try simp only [oIdRangeLaw1, Act.put, sA, sB, sC]
            refine tkY 1 oIdRangeLaw2 ?vv11_82_1 rfl (by kernel_rfl) (by kernel_rfl) (by kernel_rfl) (fun _ _ _ h => h) (by rfl) ?hy11_82_1 (by assumption) ?rest11_82_1
            case hy11_82_1 => (intro w hSw; unfold oIdRangeLaw2; (try dsimp only at hSw); (try go_split_ands); go_simp; all_goals with_reducible rfl)
            try simp only [oIdRangeLaw2, Act.put, sA, sB, sC]
            refine tkY 2 oIdRangeLaw3 ?vv11_82_2 rfl (by kernel_rfl) (by kernel_rfl) (by kernel_rfl) (fun _ _ _ h => h) (by rfl) ?hy11_82_2 (by assumption) ?rest11_82_2
            case hy11_82_2 => (intro w hSw; unfold oIdRangeLaw3; (try dsimp only at hSw); (try go_split_ands); go_simp; all_goals with_reducible rfl)
            try simp only [oIdRangeLaw3, Act.put, sA, sB, sC]
            refine tkY 3 oIdRangeLaw4 ?vv11_82_3 rfl (by kernel_rfl) (by kernel_rfl) (by kernel_rfl) (fun _ _ _ h => h) (by rfl) ?hy11_82_3 (by assumption) ?rest11_82_3
            case hy11_82_3 => (intro w hSw; unfold oIdRangeLaw4; (try dsimp only at hSw); (try go_split_ands); go_simp; all_goals with_reducible rfl)
            try simp only [oIdRangeLaw4, Act.put, sA, sB, sC]
            refine tkY 4 oIdRangeLaw5 ?vv11_82_4 rfl (by kernel_rfl) (by kernel_rfl) (by kernel_rfl) (fun _ _ _ h => h) (by rfl) ?hy11_82_4 (by assumption) ?rest11_82_4
            case hy11_82_4 => (intro w hSw; unfold oIdRangeLaw5; (try dsimp only at hSw); (try go_split_ands); go_simp; all_goals with_reducible rfl)
            try simp only [oIdRangeLaw5, Act.put, sA, sB, sC]
            refine tkY 5 oIdRangeLaw6 ?vv11_83_5 rfl (by kernel_rfl) (by kernel_rfl) (by kernel_rfl) (fun _ _ _ h => h) (by rfl) ?hy11_83_5 (by assumption) ?rest11_83_5
            case hy11_83_5 => (intro w hSw; unfold oIdRangeLaw6; (try dsimp only at hSw); have q9 := hSw.1.2.1; clear hSw; go_simp; all_goals with_reducible rfl)
            try simp only [oIdRangeLaw6, Act.put, sA, sB, sC]
            refine tkY 6 oIdRangeLaw7 ?vv11_84_6 rfl (by kernel_rfl) (by kernel_rfl) (by kernel_rfl) (fun _ _ _ h => h) (by rfl) ?hy11_84_6 (by assumption) ?rest11_84_6
            case hy11_84_6 => (intro w hSw; unfold oIdRangeLaw7; (try dsimp only at hSw); (try go_split_ands); go_simp; all_goals with_reducible rfl)
            try simp only [oIdRangeLaw7, Act.put, sA, sB, sC]
            refine tkY 7 oIdRangeLaw8 ?vv11_84_7 rfl (by kernel_rfl) (by kernel_rfl) (by kernel_rfl) (fun _ _ _ h => h) (by rfl) ?hy11_84_7 (by assumption) ?rest11_84_7
            case hy11_84_7 => (intro w hSw; unfold oIdRangeLaw8; (try dsimp only at hSw); (try go_split_ands); go_simp; all_goals with_reducible rfl)
            try simp only [oIdRangeLaw8, Act.put, sA, sB, sC]
            refine tkY 8 oIdRangeLaw9 ?vv11_85_8 rfl (by kernel_rfl) (by kernel_rfl) (by kernel_rfl) (fun _ _ _ h => h) (by rfl) ?hy11_85_8 (by assumption) ?rest11_85_8
            case hy11_85_8 => (intro w hSw; unfold oIdRangeLaw9; (try dsimp only at hSw); have q9 := hSw.1.2.2.1; clear hSw; go_simp; all_goals with_reducible rfl)
            try simp only [oIdRangeLaw9, Act.put, sA, sB, sC]
            refine tkY 9 oIdRangeLaw10 ?vv11_86_9 rfl (by kernel_rfl) (by kernel_rfl) (by kernel_rfl) (fun _ _ _ h => h) (by rfl) ?hy11_86_9 (by assumption) ?rest11_86_9
            case hy11_86_9 => (intro w hSw; unfold oIdRangeLaw10; (try dsimp only at hSw); (try go_split_ands); go_simp; all_goals with_reducible rfl)
            try simp only [oIdRangeLaw10, Act.put, sA, sB, sC]
            refine tkY 10 oIdRangeLaw11 ?vv11_86_10 rfl (by kernel_rfl) (by kernel_rfl) (by kernel_rfl) (fun _ _ _ h => h) (by rfl) ?hy11_86_10 (by assumption) ?rest11_86_10
            case hy11_86_10 => (intro w hSw; unfold oIdRangeLaw11; (try dsimp only at hSw); (try go_split_ands); go_simp; all_goals with_reducible rfl)
            try simp only [oIdRangeLaw11, Act.put, sA, sB, sC]
            refine tkY 11 oIdRangeLaw12 ?vv11_86_11 rfl (by kernel_rfl) (by kernel_rfl) (by kernel_rfl) (fun _ _ _ h => h) (by rfl) ?hy11_86_11 (by assumption) ?rest11_86_11
            case hy11_86_11 => (intro w hSw; unfold oIdRangeLaw12; (try dsimp only at hSw); (try go_split_ands); go_simp; all_goals with_reducible rfl)
            try simp only [oIdRangeLaw12, Act.put, sA, sB, sC]
            refine tkY 12 oIdRangeLaw13 ?vv11_87_12 rfl (by kernel_rfl) (by kernel_rfl) (by kernel_rfl) (fun _ _ _ h => h) (by rfl) ?hy11_87_12 (by assumption) ?rest11_87_12
            case hy11_87_12 => (intro w hSw; unfold oIdRangeLaw13; (try dsimp only at hSw); have q9 := hSw.1.2.2.2; clear hSw; go_simp; all_goals with_reducible rfl)
            try simp only [oIdRangeLaw13, Act.put, sA, sB, sC]
            refine tkY 13 oIdRangeLaw14 ?vv11_88_13 rfl (by kernel_rfl) (by kernel_rfl) (by kernel_rfl) (fun _ _ _ h => h) (by rfl) ?hy11_88_13 (by assumption) ?rest11_88_13
            case hy11_88_13 => (intro w hSw; unfold oIdRangeLaw14; (try dsimp only at hSw); have q9 := hSw.1.1; clear hSw; go_simp; all_goals with_reducible rfl)
            try simp only [oIdRangeLaw14, Act.put, sA, sB, sC]
            refine tkY 14 oIdRangeLaw15 ?vv11_89_14 rfl (by kernel_rfl) (by kernel_rfl) (by kernel_rfl) (fun _ _ _ h => h) (by rfl) ?hy11_89_14 (by assumption) ?rest11_89_14
            case hy11_89_14 => (intro w hSw; unfold oIdRangeLaw15; (try dsimp only at hSw); (try go_split_ands); go_simp; all_goals with_reducible rfl)
            try simp only [oIdRangeLaw15, Act.put, sA, sB, sC]
            refine tkY 15 oIdRangeLaw16 ?vv11_89_15 rfl (by kernel_rfl) (by kernel_rfl) (by kernel_rfl) (fun _ _ _ h => h) (by rfl) ?hy11_89_15 (by assumption) ?rest11_89_15
            case hy11_89_15 => (intro w hSw; unfold oIdRangeLaw16; (try dsimp only at hSw); (try go_split_ands); go_simp; all_goals with_reducible rfl)
            try simp only [oIdRangeLaw16, Act.put, sA, sB, sC]
            refine tkY 16 oIdRangeLaw17 ?vv11_89_16 rfl (by kernel_rfl) (by kernel_rfl) (by kernel_rfl) (fun _ _ _ h => h) (by rfl) ?hy11_89_16 (by assumption) ?rest11_89_16
            case hy11_89_16 => (intro w hSw; unfold oIdRangeLaw17; (try dsimp only at hSw); (try go_split_ands); go_simp; all_goals with_reducible rfl)
            try simp only [oIdRangeLaw17, Act.put, sA, sB, sC]
            refine tkY 17 oIdRangeLaw18 ?vv11_89_17 rfl (by kernel_rfl) (by kernel_rfl) (by kernel_rfl) (fun _ _ _ h => h) (by rfl) ?hy11_89_17 (by assumption) ?rest11_89_17
            case hy11_89_17 => (intro w hSw; unfold oIdRangeLaw18; (try dsimp only at hSw); (try go_split_ands); go_simp; all_goals with_reducible rfl)
            try simp only [oIdRangeLaw18, Act.put, sA, sB, sC]
            have hbd : Below X.heap.size X X.drew := (Below.refl _ _).drew
            refine wpAnyH_ready (rs := [18]) (by kernel_rfl) (by simp) ?_
            refine AllReadyH.cons (o := oIdRangeLaw19) rfl (fun K hK => ?_) AllReadyH.nil
            unfold oIdRangeLaw19
            go_simp
            (go_at_call 15; refine (awake_any _ (HG.out.below (below_more HBX.out hbd))).mono ?_; rintro e w9 ⟨rfl, hb9⟩)
            refine hK.out _ _ ?_ (fun hHeld => ?_)
            · (exact ⟨⟨(hb9.cell (World.block_lt_of_cell? _ _ hHeld.1.1)).trans hHeld.1.1, (hb9.cell (World.block_lt_of_cell? _ _ hHeld.1.2.1)).trans hHeld.1.2.1, (hb9.cell (World.block_lt_of_cell? _ _ hHeld.1.2.2.1)).trans hHeld.1.2.2.1, (hb9.cell (World.block_lt_of_cell? _ _ hHeld.1.2.2.2)).trans hHeld.1.2.2.2⟩, hHeld.2.elim fun bb h => ⟨bb, (hb9.block _ h.lt).trans h⟩⟩)
            clear hK K
            try simp only [oIdRangeLaw19, Act.put, sA, sB, sC]
            refine tkY 19 oIdRangeLaw20 ?vv11_90_19 rfl (by kernel_rfl) (by kernel_rfl) (by kernel_rfl) (fun _ _ _ h => h) (by rfl) ?hy11_90_19 (by assumption) ?rest11_90_19
            case hy11_90_19 => (intro w hSw; unfold oIdRangeLaw20; (try dsimp only at hSw); (try go_split_ands); go_simp; all_goals with_reducible rfl)
            try simp only [oIdRangeLaw20, Act.put, sA, sB, sC]
            obtain ⟨bb, hbb⟩ := hHeld.2
            have c6 := hbb.cell
            have f6 := hbb.frozen
            have hne6 : ∀ b, W.heap.size ≤ b → b ≠ w.heap.size + 2 := fun b h => by omega
            have HNE := Lib.hid hne6
            have HBB := Lib.hid hbb
            have HB9 := Lib.hid (below_more hbd hb9)
            have hnb6 : nb ≠ w.heap.size + 2 := by omega
            have hhb6 : hb ≠ w.heap.size + 2 := by omega
            have HN6 := Lib.hid hnb6
            have HH6 := Lib.hid hhb6
            have HHD := Lib.hid hHeld
            clear hne6 hbb hbd hb9 hnb6 hhb6
            refine wpAnyH_ready (rs := [20]) (by kernel_rfl) (by simp) ?_
            refine AllReadyH.cons (o := oIdRangeLaw21) rfl (fun K hK => ?_) AllReadyH.nil
            unfold oIdRangeLaw21
            go_simp
            refine hK.out _ _ ?_ (fun hHeld => ?_)
            · (exact ⟨⟨(World.cell?_of_block (heap_setCell_other _ ⟨w.heap.size + 2, 0, none⟩ _ _ (HNE.out _ (Nat.le_refl _)))).trans HHD.out.1.1, (World.cell?_of_block (heap_setCell_other _ ⟨w.heap.size + 2, 0, none⟩ _ _ (HNE.out _ (Nat.le_succ _)))).trans HHD.out.1.2.1, (World.cell?_of_block (heap_setCell_other _ ⟨w.heap.size + 2, 0, none⟩ _ _ HH6.out)).trans HHD.out.1.2.2.1, (World.cell?_of_block (heap_setCell_other _ ⟨w.heap.size + 2, 0, none⟩ _ _ HN6.out)).trans HHD.out.1.2.2.2⟩, true, HBB.out.set _⟩)
            clear hK K
            try simp only [oIdRangeLaw21, Act.put, sA, sB, sC]
            refine wpAnyH_done (by kernel_rfl) ?_ _
            unfold NoP
            dsimp only
            clear hHeld hss hll2 c6 f6
            have hD6 : D ≠ w.heap.size + 2 := by have := hD; omega
            have k2 : (w9.setCell ⟨w.heap.size + 2, 0, none⟩ (.bool true)).heap[D2]? = some (.deferred (some [])) := (heap_setCell_other _ ⟨w.heap.size + 2, 0, none⟩ _ _ (by show D2 ≠ w.heap.size + 2; omega)).trans ((HB9.out.block D2 (Array.getElem?_eq_some_iff.1 HKD2.out).1).trans HKD2.out)
            have k1 : (w9.setCell ⟨w.heap.size + 2, 0, none⟩ (.bool true)).heap[D]? = some (.deferred (some [])) := (heap_setCell_other _ ⟨w.heap.size + 2, 0, none⟩ _ _ hD6).trans ((HB9.out.block D (by omega)).trans HKD1.out)
            have hBf : Below w.heap.size w (w9.setCell ⟨w.heap.size + 2, 0, none⟩ (.bool true)) := (below_more HBX.out HB9.out).setCell (p := ⟨w.heap.size + 2, 0, none⟩) (by show w.heap.size ≤ w.heap.size + 2; omega) _
            have hcf : (w9.setCell ⟨w.heap.size + 2, 0, none⟩ (.bool true)).cell? ⟨w.heap.size + 2, 0, none⟩ = some (.bool true) := (HBB.out.set _).cell
            have HK2f := Lib.hid k2
            have HK1f := Lib.hid k1
            have HBf := Lib.hid hBf
            have HCf := Lib.hid hcf
            clear k1 k2 hBf hcf
            go_wp2_with fail
            have hDD : D2 ≠ D := by omega
            obtain ⟨Y, hY⟩ : ∃ Y, Y = w9.setCell ⟨w.heap.size + 2, 0, none⟩ (.bool true) := ⟨_, rfl⟩
            have kk2 := HK2f.out
            have kk1 := HK1f.out
            have hBy := HBf.out
            have hcy := HCf.out
            rw [← hY] at kk2 kk1 hBy hcy
            have hY1 : (Y.putObj D2 (.deferred none)).heap[D]? = some (.deferred (some [])) := (World.putObj_heap_other (fun e => hDD (by omega))).trans kk1
            have hBz : Below w.heap.size w ((Y.putObj D2 (.deferred none)).putObj D (.deferred none)) := (hBy.trans (belowK_b (w := w) (Nat.le_refl _) Y D2 _ _ (by omega) kk2 rfl rfl)).trans (belowK_b (w := w) (Nat.le_refl _) _ D _ _ (by omega) hY1 rfl rfl)
            have hz6 : ((Y.putObj D2 (.deferred none)).putObj D (.deferred none)).heap[w.heap.size + 2]? = Y.heap[w.heap.size + 2]? := (World.putObj_heap_other (fun e => hD6 (by omega))).trans (World.putObj_heap_other (fun e => by omega))
            have hcz : ((Y.putObj D2 (.deferred none)).putObj D (.deferred none)).cell? ⟨w.heap.size + 2, 0, none⟩ = some (.bool true) := (World.cell?_of_block (a := ⟨w.heap.size + 2, 0, none⟩) hz6).trans hcy
            refine ⟨by simp, .inl ⟨_, _, rfl, run_takeDeferred HK2f.out, ?_⟩⟩
            rw [← hY]
            refine ⟨by simp, .inl ⟨_, _, rfl, run_takeDeferred hY1, ?_⟩⟩
            exact ⟨_, results_bool rfl _ _ (w.heap.size + 2) true rfl hcz Tryd.underlying4, rfl, hBz⟩
          case stop2 =>
            rintro D2 c pre X hD2 hp ⟨_, hns⟩ _
            refine absurd ?_ hns
            have h1 : valN LS = L := HLS.out
            have h2 : Srt ltN (valN LS) := by rw [h1]; exact HR2.out.sq.srt
            exact List.Pairwise.sublist (List.Sublist.map _ hp.sublist) h2
        case stop =>
          rintro D c pre W hD hp ⟨rfl, ⟨bN, hK1⟩, hB⟩ hK
          obtain ⟨m, hm⟩ : ∃ m, m = pre.length := ⟨_, rfl⟩
          have hmL : m ≤ L.length := by have := hp.length_le; omega
          rw [← hm] at bN
          clear hm hp
          refine wpIn_wide.2 ?_
          have hRS := HKP.out W hK1 hB
          have HRW := Lib.hid hRS
          have hnw : nb < W.heap.size := bN.lt
          obtain ⟨W2, hW2⟩ : ∃ W2, W2 = (W.alloc (.cells #[.slice none 0 0] 30)).alloc (.cells #[.bool false] 4) := ⟨_, rfl⟩
          have hbW2 : Below W.heap.size W W2 := by rw [hW2]; exact below_alloc (below_alloc (Below.refl _ _) _) _
          have hs2 : W2.heap.size = W.heap.size + 2 := by rw [hW2]; simp
          have hgot : Boxed W2 W.heap.size 30 (.slice none 0 0) := by rw [hW2]; exact (Boxed.new W _ _).alloc _
          have htol : Boxed W2 (W.heap.size + 1) 4 (.bool false) := by
            have h := Boxed.new (W.alloc (.cells #[.slice none 0 0] 30)) 4 (.bool false)
            rw [World.size_alloc] at h
            rw [hW2]; exact h
          have HGOT := Lib.hid hgot
          have HTOL := Lib.hid htol
          have HB2 := Lib.hid hbW2
          have HBN := Lib.hid bN
          have HKD := Lib.hid hK
          have hs2a : W2.heap.size ≤ W.heap.size + 2 := by omega
          have hs2b : W.heap.size + 2 ≤ W2.heap.size := by omega
          have HK1 := Lib.hid hK1
          have HSGX := Lib.hid hsg
          clear hRS hgot htol hbW2 bN hK hs2 hK1 hsg hB
          go_wp2_with fail
          rw [← hW2]
          clear hW2
          have hR2 : RS w W2 bx A5 L hb f id := HRW.out.keep (fun b hl => HB2.out.block b hl) HB2.out.size (below_more HRW.out.below HB2.out)
          have HR2 := Lib.hid hR2
          have HSG2 : Hid (∀ b, SG bx A5 b → b < W.heap.size) := sg_lt HRW.out.sq HRW.out.al (HG.out.below HRW.out.below)
          have HKP2 : Hid (∀ X, KpG (fun b => b < W.heap.size) W2 X → Below w.heap.size w X → RS w X bx A5 L hb f id) := fun X hk hB => HRW.out.keep (fun b hl => (hk.block b hl).trans (HB2.out.block b hl)) (by have := hk.size; omega) hB
          have hwW : w.heap.size + 3 ≤ W.heap.size := by omega
          refine (wpIn_wide (n := 9)).1 ?_
          refine range_ids (d := 16) rfl HR2.out.sq (HG.out.below HR2.out.below) HLS.out (fun b hb => by have := HSG2.out b hb; omega)
            (fun pre X => ((((∃ v, Boxed X W.heap.size 30 v ∧ X.ownsRow W.heap.size 25 1 v (valN pre).length ((valN pre).map u16V) ∧ ∀ b, v.ownBlock = some b → W2.heap.size ≤ b) ∧ Boxed X (W.heap.size + 1) 4 (.bool (decide (id ∈ valN pre)))) ∧ KpG (fun b => b < W.heap.size) W2 X) ∧ Srt ltN (valN pre) ∧ Below w.heap.size w X))
            (fun c pre X => c = .ret ∧ ¬ Srt ltN (valN pre))
            (OwnFrom.and (OwnFrom.and (OwnFrom.and (Own.from (holdsRow_own W.heap.size W.heap.size 30 25 1 (fun pre => (valN pre).length) (fun pre => (valN pre).map u16V) (fun _ v => ∀ b, v.ownBlock = some b → W2.heap.size ≤ b)) _) (Own.from (boxed_own (W.heap.size + 1) 4 (fun pre : List N16 => .bool (decide (id ∈ valN pre)))) _)) (ownFrom_kpG (fun b hb => ⟨by omega, by omega⟩))) (OwnFrom.and (ownFrom_pure _ _) (ownFrom_below (Nat.le_refl _) (by omega))))
            (fun c => OwnFrom.and (ownFrom_pure _ _) (ownFrom_pure _ _))
            ⟨⟨⟨⟨_, HGOT.out, World.ownsRow_nil _ _ _ _, fun b e => by cases e⟩, HTOL.out⟩, KpG.refl _⟩, List.Pairwise.nil, HR2.out.below⟩ ?assign2 ?body2 ?done2 ?stop2
          case assign2 =>
            intro l v W K hK
            simp only [sA, sB, sC] at hK ⊢
            gi_wp2
            exact hK
          case body2 =>
            rintro l pre x X ⟨⟨⟨⟨v, bL1, hrow, hvb⟩, bT⟩, hK2⟩, hSr, hB⟩ hlt
            simp only [sA, sB, sC]
            obtain ⟨x, hx1, hx2⟩ := x
            have hR := HKP2.out X hK2 hB
            have c5 := hR.b5.cell
            have c6 := hR.b6.cell
            have f6 := hR.b6.frozen
            have hx0 : ((x : Int) == 0) = false := by simp; omega
            obtain ⟨P, hP⟩ : ∃ P, valN pre = P := ⟨_, rfl⟩
            obtain ⟨N, hN⟩ : ∃ N, P.length = N := ⟨_, rfl⟩
            have hNl : N ≤ 65535 := by
              have h1 : (valN pre).length = pre.length := List.length_map ..
              rw [hP, hN] at h1
              omega
            rw [hP] at hrow bT hSr
            rw [hN] at hrow
            obtain ⟨t0, ht0⟩ : ∃ t0, decide (id ∈ P) = t0 := ⟨_, rfl⟩
            rw [ht0] at bT
            obtain ⟨r, hr⟩ : ∃ r, decide (x = id) = r := ⟨_, rfl⟩
            have heq : ((x : Int) == (id : Int)) = r := by
              rw [← hr]
              by_cases e : x = id
              · simp [e]
              · simp [e]; omega
            have HPV := Lib.hid hP
            have HN := Lib.hid hN
            have HT0 := Lib.hid ht0
            have HR0 := Lib.hid hr
            have HVB := Lib.hid hvb
            have HROW0 := Lib.hid hrow
            have HBT := Lib.hid bT
            have HK2 := Lib.hid hK2
            have HBB := Lib.hid hB
            dsimp only
            by_cases hN0 : N = 0
            · have hPn : P = [] := List.eq_nil_of_length_eq_zero (by omega)
              have HSN : Hid (Srt ltN (P ++ [x])) := by show Srt _ _; rw [hPn]; exact List.pairwise_singleton _ _
              obtain ⟨AV, c3, rfl, _, _, _, _⟩ := vrow_form hrow
              have HROW : Hid (X.ownsRow W.heap.size 25 1 (.slice AV N c3) N (P.map u16V)) := HROW0
              have HBL := Lib.hid bL1
              have hNg : ¬ (N : Int) > 0 := by omega
              clear hP hN ht0 hr hvb hrow bT hK2 hB bL1 hPn hN0 hSr hR
              cases t0 with
              | true => 
                obtain ⟨X1, hX1⟩ : ∃ X1, X1 = X.setCell ⟨W.heap.size + 1, 0, none⟩ (.bool true) := ⟨_, rfl⟩
                have hs1 : X1.heap.size = X.heap.size := by rw [hX1]; simp [World.setCell]
                have bL2 : Boxed X1 W.heap.size 30 (.slice AV N c3) := by rw [hX1]; exact (heap_setCell_other X ⟨W.heap.size + 1, 0, none⟩ W.heap.size _ (by show W.heap.size ≠ W.heap.size + 1; omega)).trans HBL.out
                have bT2 : Boxed X1 (W.heap.size + 1) 4 (.bool true) := by rw [hX1]; exact HBT.out.set _
                have hrow2 : X1.ownsRow W.heap.size 25 1 (.slice AV N c3) N (P.map u16V) := vrow_keep HROW.out (fun b hb => by rw [hX1]; exact heap_setCell_other X ⟨W.heap.size + 1, 0, none⟩ b _ (by have := HVB.out b hb; show b ≠ W.heap.size + 1; omega))
                have hnew : (X1.alloc (.cells #[.int .u16 (x : Nat)] 25)).cell? ⟨X.heap.size, 0, none⟩ = some (.int .u16 (x : Nat)) := by rw [← hs1]; exact World.cell?_alloc_new _ _ _ _
                have hXl := HBL.out.lt
                obtain ⟨A', c', w7, hrun, hown7, hgr, hat⟩ := v_append (P := Tryd.prog) (T := 30) (ty := 30) (hrow2.alloc (.cells #[.int .u16 (x : Nat)] 25)) (by simp; omega) Tryd.underlying30 info16 rfl (by decide) (some ⟨X.heap.size, 0, none⟩) 1 1 [u16V x] (Vals.one hnew) (by simp [u16V, Value.oneCell']) (fun e => by cases e) (by omega)
                obtain ⟨b7, a2, a3, a4, a5⟩ := bL2.appended (by decide) hrow2 (by omega) (Nat.le_refl _) hown7 hgr
                have bT7 : Boxed w7 (W.heap.size + 1) 4 (.bool true) := (bT2.alloc _).kept hgr (fun e => by have := HVB.out _ e.symm; omega)
                have HP1 : Hid (KpG (fun b => b < W.heap.size) X (w7.setCell ⟨W.heap.size, 0, none⟩ (.slice A' (N + 1) c'))) := by
                  refine KpG.t (B := X1) ⟨by omega, fun b hb => by rw [hX1]; exact heap_setCell_other X ⟨W.heap.size + 1, 0, none⟩ b _ (by show b ≠ W.heap.size + 1; omega)⟩ (kpG_app (fun b hb => ⟨by omega, by omega, fun e => by have := HVB.out b e; omega⟩) hgr)
                have HI2 : Hid (((((∃ v, Boxed (w7.setCell ⟨W.heap.size, 0, none⟩ (.slice A' (N + 1) c')) W.heap.size 30 v ∧ (w7.setCell ⟨W.heap.size, 0, none⟩ (.slice A' (N + 1) c')).ownsRow W.heap.size 25 1 v (valN (pre ++ [(⟨x, hx1, hx2⟩ : N16)])).length ((valN (pre ++ [(⟨x, hx1, hx2⟩ : N16)])).map u16V) ∧ ∀ b, v.ownBlock = some b → W2.heap.size ≤ b) ∧ Boxed (w7.setCell ⟨W.heap.size, 0, none⟩ (.slice A' (N + 1) c')) (W.heap.size + 1) 4 (.bool (decide (id ∈ valN (pre ++ [(⟨x, hx1, hx2⟩ : N16)]))))) ∧ KpG (fun b => b < W.heap.size) W2 (w7.setCell ⟨W.heap.size, 0, none⟩ (.slice A' (N + 1) c'))) ∧ Srt ltN (valN (pre ++ [(⟨x, hx1, hx2⟩ : N16)])) ∧ Below w.heap.size w (w7.setCell ⟨W.heap.size, 0, none⟩ (.slice A' (N + 1) c')))) := by
                  have e1 : valN (pre ++ [(⟨x, hx1, hx2⟩ : N16)]) = P ++ [x] := by rw [valN_app, HPV.out]
                  have e2 : (P ++ [x]).length = N + 1 := by rw [List.length_append, HN.out]; rfl
                  rw [e1, e2]
                  refine ⟨⟨⟨⟨_, a2, by rw [List.map_append]; exact a3, fun b hb => ?_⟩, ?_⟩, HK2.out.t HP1.out⟩, HSN.out, ?_⟩
                  · rcases hat with h | h
                    · exact HVB.out b (h.symm.trans hb)
                    · rw [h] at hb
                      cases hb
                      simp; have := HK2.out.size; omega
                  · rw [told_dec id x P _ _ HT0.out HR0.out]
                    exact (heap_setCell_other w7 ⟨W.heap.size, 0, none⟩ (W.heap.size + 1) _ (by show W.heap.size + 1 ≠ W.heap.size; omega)).trans bT7
                  · have hB1 : Below w.heap.size w X1 := by rw [hX1]; exact HBB.out.setCell (p := ⟨W.heap.size + 1, 0, none⟩) (show w.heap.size ≤ W.heap.size + 1 by omega) _
                    exact hB1.trans (a5.mono (by omega))
                have HKO : Hid (KeepsFrom W2.heap.size X (w7.setCell ⟨W.heap.size, 0, none⟩ (.slice A' (N + 1) c'))) := by
                  have h1 : KeepsOthers X X1 := by rw [hX1]; exact KeepsOthers.setCell _ _ _
                  exact (h1.trans a4).from _
                have hgc := b7.cell
                have hgf := b7.frozen
                rw [hX1] at hrun
                have HRUN := Lib.hid hrun
                have cL := HBL.out.cell
                have cT := HBT.out.cell
                have fT := HBT.out.frozen
                clear hX1 hs1 bL2 bT2 hrow2 hnew hrun hown7 hgr hat b7 a2 a3 a4 a5 bT7
                gi_wp2_with (gi_at_builtin; refine wpListIn_vapp rfl _ _ _ rfl rfl rfl HRUN.out ?_)
                exact ⟨HKO.out, ⟨HP1.out.size, fun b hb => HP1.out.block b (HSG2.out b hb)⟩, HI2.out⟩
              | false =>
                obtain ⟨X1, hX1⟩ : ∃ X1, X1 = X.setCell ⟨W.heap.size + 1, 0, none⟩ (.bool r) := ⟨_, rfl⟩
                have hs1 : X1.heap.size = X.heap.size := by rw [hX1]; simp [World.setCell]
                have bL2 : Boxed X1 W.heap.size 30 (.slice AV N c3) := by rw [hX1]; exact (heap_setCell_other X ⟨W.heap.size + 1, 0, none⟩ W.heap.size _ (by show W.heap.size ≠ W.heap.size + 1; omega)).trans HBL.out
                have bT2 : Boxed X1 (W.heap.size + 1) 4 (.bool r) := by rw [hX1]; exact HBT.out.set _
                have hrow2 : X1.ownsRow W.heap.size 25 1 (.slice AV N c3) N (P.map u16V) := vrow_keep HROW.out (fun b hb => by rw [hX1]; exact heap_setCell_other X ⟨W.heap.size + 1, 0, none⟩ b _ (by have := HVB.out b hb; show b ≠ W.heap.size + 1; omega))
                have hnew : (X1.alloc (.cells #[.int .u16 (x : Nat)] 25)).cell? ⟨X.heap.size, 0, none⟩ = some (.int .u16 (x : Nat)) := by rw [← hs1]; exact World.cell?_alloc_new _ _ _ _
                have hXl := HBL.out.lt
                obtain ⟨A', c', w7, hrun, hown7, hgr, hat⟩ := v_append (P := Tryd.prog) (T := 30) (ty := 30) (hrow2.alloc (.cells #[.int .u16 (x : Nat)] 25)) (by simp; omega) Tryd.underlying30 info16 rfl (by decide) (some ⟨X.heap.size, 0, none⟩) 1 1 [u16V x] (Vals.one hnew) (by simp [u16V, Value.oneCell']) (fun e => by cases e) (by omega)
                obtain ⟨b7, a2, a3, a4, a5⟩ := bL2.appended (by decide) hrow2 (by omega) (Nat.le_refl _) hown7 hgr
                have bT7 : Boxed w7 (W.heap.size + 1) 4 (.bool r) := (bT2.alloc _).kept hgr (fun e => by have := HVB.out _ e.symm; omega)
                have HP1 : Hid (KpG (fun b => b < W.heap.size) X (w7.setCell ⟨W.heap.size, 0, none⟩ (.slice A' (N + 1) c'))) := by
                  refine KpG.t (B := X1) ⟨by omega, fun b hb => by rw [hX1]; exact heap_setCell_other X ⟨W.heap.size + 1, 0, none⟩ b _ (by show b ≠ W.heap.size + 1; omega)⟩ (kpG_app (fun b hb => ⟨by omega, by omega, fun e => by have := HVB.out b e; omega⟩) hgr)
                have HI2 : Hid (((((∃ v, Boxed (w7.setCell ⟨W.heap.size, 0, none⟩ (.slice A' (N + 1) c')) W.heap.size 30 v ∧ (w7.setCell ⟨W.heap.size, 0, none⟩ (.slice A' (N + 1) c')).ownsRow W.heap.size 25 1 v (valN (pre ++ [(⟨x, hx1, hx2⟩ : N16)])).length ((valN (pre ++ [(⟨x, hx1, hx2⟩ : N16)])).map u16V) ∧ ∀ b, v.ownBlock = some b → W2.heap.size ≤ b) ∧ Boxed (w7.setCell ⟨W.heap.size, 0, none⟩ (.slice A' (N + 1) c')) (W.heap.size + 1) 4 (.bool (decide (id ∈ valN (pre ++ [(⟨x, hx1, hx2⟩ : N16)]))))) ∧ KpG (fun b => b < W.heap.size) W2 (w7.setCell ⟨W.heap.size, 0, none⟩ (.slice A' (N + 1) c'))) ∧ Srt ltN (valN (pre ++ [(⟨x, hx1, hx2⟩ : N16)])) ∧ Below w.heap.size w (w7.setCell ⟨W.heap.size, 0, none⟩ (.slice A' (N + 1) c')))) := by
                  have e1 : valN (pre ++ [(⟨x, hx1, hx2⟩ : N16)]) = P ++ [x] := by rw [valN_app, HPV.out]
                  have e2 : (P ++ [x]).length = N + 1 := by rw [List.length_append, HN.out]; rfl
                  rw [e1, e2]
                  refine ⟨⟨⟨⟨_, a2, by rw [List.map_append]; exact a3, fun b hb => ?_⟩, ?_⟩, HK2.out.t HP1.out⟩, HSN.out, ?_⟩
                  · rcases hat with h | h
                    · exact HVB.out b (h.symm.trans hb)
                    · rw [h] at hb
                      cases hb
                      simp; have := HK2.out.size; omega
                  · rw [told_dec id x P _ _ HT0.out HR0.out]
                    exact (heap_setCell_other w7 ⟨W.heap.size, 0, none⟩ (W.heap.size + 1) _ (by show W.heap.size + 1 ≠ W.heap.size; omega)).trans bT7
                  · have hB1 : Below w.heap.size w X1 := by rw [hX1]; exact HBB.out.setCell (p := ⟨W.heap.size + 1, 0, none⟩) (show w.heap.size ≤ W.heap.size + 1 by omega) _
                    exact hB1.trans (a5.mono (by omega))
                have HKO : Hid (KeepsFrom W2.heap.size X (w7.setCell ⟨W.heap.size, 0, none⟩ (.slice A' (N + 1) c'))) := by
                  have h1 : KeepsOthers X X1 := by rw [hX1]; exact KeepsOthers.setCell _ _ _
                  exact (h1.trans a4).from _
                have hgc := b7.cell
                have hgf := b7.frozen
                rw [hX1] at hrun
                have HRUN := Lib.hid hrun
                have cL := HBL.out.cell
                have cT := HBT.out.cell
                have fT := HBT.out.frozen
                clear hX1 hs1 bL2 bT2 hrow2 hnew hrun hown7 hgr hat b7 a2 a3 a4 a5 bT7
                gi_wp2_with (gi_at_builtin; refine wpListIn_vapp rfl _ _ _ rfl rfl rfl HRUN.out ?_)
                exact ⟨HKO.out, ⟨HP1.out.size, fun b hb => HP1.out.block b (HSG2.out b hb)⟩, HI2.out⟩
            · obtain ⟨N', hN'⟩ : ∃ N', N = N' + 1 := ⟨N - 1, by omega⟩
              rcases List.eq_nil_or_concat P with hPn | ⟨ini, y, hPy⟩ <;> try rw [List.concat_eq_append] at hPy
              · rw [hPn] at hN; simp at hN; omega
              have hini : ini.length = N' := by rw [hPy, List.length_append] at hN; simp at hN; omega
              obtain ⟨gr, c3, rfl, _, _, _, hcs, _, _⟩ := vrow_form1 hrow (by omega)
              have hcy : X.cell? ⟨gr, N', none⟩ = some (.int .u16 (y : Int)) := hcs N' (u16V y) (by rw [hPy, List.map_append, List.getElem?_append_right (by rw [List.length_map]; omega), List.length_map, hini, Nat.sub_self]; rfl)
              have hNg : (N : Int) > 0 := by omega
              have hidx : (N : Int) - 1 = (N' : Int) := by omega
              have hNI : (N' : Int) < (N : Int) := by omega
              have hNI0 : (0 : Int) ≤ (N' : Int) := by omega
              obtain ⟨AV, hAV⟩ : ∃ AV : Option Addr, AV = some ⟨gr, 0, none⟩ := ⟨_, rfl⟩
              have HAV := Lib.hid hAV
              have HBL1 := Lib.hid bL1
              have HROW1 := Lib.hid hrow
              by_cases hyx : y < x
              · have HSN : Hid (Srt ltN (P ++ [x])) := by show Srt _ _; rw [hPy]; rw [hPy] at hSr; exact srt_snoc hSr hyx
                have hyI : ¬ (y : Int) ≥ (x : Int) := by omega
                clear hP hN ht0 hr hvb hrow bT hK2 hB bL1 hN0 hSr hR hN' hPy hini hcs hyx hAV AV HAV
                cases t0 with
                | true =>
                  obtain ⟨X1, hX1⟩ : ∃ X1, X1 = X.setCell ⟨W.heap.size + 1, 0, none⟩ (.bool true) := ⟨_, rfl⟩
                  have hs1 : X1.heap.size = X.heap.size := by rw [hX1]; simp [World.setCell]
                  have bL2 : Boxed X1 W.heap.size 30 (.slice (some ⟨gr, 0, none⟩) N c3) := by rw [hX1]; exact (heap_setCell_other X ⟨W.heap.size + 1, 0, none⟩ W.heap.size _ (by show W.heap.size ≠ W.heap.size + 1; omega)).trans HBL1.out
                  have bT2 : Boxed X1 (W.heap.size + 1) 4 (.bool true) := by rw [hX1]; exact HBT.out.set _
                  have hrow2 : X1.ownsRow W.heap.size 25 1 (.slice (some ⟨gr, 0, none⟩) N c3) N (P.map u16V) := vrow_keep HROW1.out (fun b hb => by rw [hX1]; exact heap_setCell_other X ⟨W.heap.size + 1, 0, none⟩ b _ (by have := HVB.out b hb; show b ≠ W.heap.size + 1; omega))
                  have hnew : (X1.alloc (.cells #[.int .u16 (x : Nat)] 25)).cell? ⟨X.heap.size, 0, none⟩ = some (.int .u16 (x : Nat)) := by rw [← hs1]; exact World.cell?_alloc_new _ _ _ _
                  have hXl := HBL1.out.lt
                  obtain ⟨A', c', w7, hrun, hown7, hgr, hat⟩ := v_append (P := Tryd.prog) (T := 30) (ty := 30) (hrow2.alloc (.cells #[.int .u16 (x : Nat)] 25)) (by simp; omega) Tryd.underlying30 info16 rfl (by decide) (some ⟨X.heap.size, 0, none⟩) 1 1 [u16V x] (Vals.one hnew) (by simp [u16V, Value.oneCell']) (fun e => by cases e) (by omega)
                  obtain ⟨b7, a2, a3, a4, a5⟩ := bL2.appended (by decide) hrow2 (by omega) (Nat.le_refl _) hown7 hgr
                  have bT7 : Boxed w7 (W.heap.size + 1) 4 (.bool true) := (bT2.alloc _).kept hgr (fun e => by have := HVB.out _ e.symm; omega)
                  have HP1 : Hid (KpG (fun b => b < W.heap.size) X (w7.setCell ⟨W.heap.size, 0, none⟩ (.slice A' (N + 1) c'))) := by
                    refine KpG.t (B := X1) ⟨by omega, fun b hb => by rw [hX1]; exact heap_setCell_other X ⟨W.heap.size + 1, 0, none⟩ b _ (by show b ≠ W.heap.size + 1; omega)⟩ (kpG_app (fun b hb => ⟨by omega, by omega, fun e => by have := HVB.out b e; omega⟩) hgr)
                  have HI2 : Hid (((((∃ v, Boxed (w7.setCell ⟨W.heap.size, 0, none⟩ (.slice A' (N + 1) c')) W.heap.size 30 v ∧ (w7.setCell ⟨W.heap.size, 0, none⟩ (.slice A' (N + 1) c')).ownsRow W.heap.size 25 1 v (valN (pre ++ [(⟨x, hx1, hx2⟩ : N16)])).length ((valN (pre ++ [(⟨x, hx1, hx2⟩ : N16)])).map u16V) ∧ ∀ b, v.ownBlock = some b → W2.heap.size ≤ b) ∧ Boxed (w7.setCell ⟨W.heap.size, 0, none⟩ (.slice A' (N + 1) c')) (W.heap.size + 1) 4 (.bool (decide (id ∈ valN (pre ++ [(⟨x, hx1, hx2⟩ : N16)]))))) ∧ KpG (fun b => b < W.heap.size) W2 (w7.setCell ⟨W.heap.size, 0, none⟩ (.slice A' (N + 1) c'))) ∧ Srt ltN (valN (pre ++ [(⟨x, hx1, hx2⟩ : N16)])) ∧ Below w.heap.size w (w7.setCell ⟨W.heap.size, 0, none⟩ (.slice A' (N + 1) c')))) := by
                    have e1 : valN (pre ++ [(⟨x, hx1, hx2⟩ : N16)]) = P ++ [x] := by rw [valN_app, HPV.out]
                    have e2 : (P ++ [x]).length = N + 1 := by rw [List.length_append, HN.out]; rfl
                    rw [e1, e2]
                    refine ⟨⟨⟨⟨_, a2, by rw [List.map_append]; exact a3, fun b hb => ?_⟩, ?_⟩, HK2.out.t HP1.out⟩, HSN.out, ?_⟩
                    · rcases hat with h | h
                      · exact HVB.out b (h.symm.trans hb)
                      · rw [h] at hb
                        cases hb
                        simp; have := HK2.out.size; omega
                    · rw [told_dec id x P _ _ HT0.out HR0.out]
                      exact (heap_setCell_other w7 ⟨W.heap.size, 0, none⟩ (W.heap.size + 1) _ (by show W.heap.size + 1 ≠ W.heap.size; omega)).trans bT7
                    · have hB1 : Below w.heap.size w X1 := by rw [hX1]; exact HBB.out.setCell (p := ⟨W.heap.size + 1, 0, none⟩) (show w.heap.size ≤ W.heap.size + 1 by omega) _
                      exact hB1.trans (a5.mono (by omega))
                  have HKO : Hid (KeepsFrom W2.heap.size X (w7.setCell ⟨W.heap.size, 0, none⟩ (.slice A' (N + 1) c'))) := by
                    have h1 : KeepsOthers X X1 := by rw [hX1]; exact KeepsOthers.setCell _ _ _
                    exact (h1.trans a4).from _
                  have hgc := b7.cell
                  have hgf := b7.frozen
                  rw [hX1] at hrun
                  have HRUN := Lib.hid hrun
                  have cL := HBL1.out.cell
                  have cT := HBT.out.cell
                  have fT := HBT.out.frozen
                  clear hX1 hs1 bL2 bT2 hrow2 hnew hrun hown7 hgr hat b7 a2 a3 a4 a5 bT7
                  gi_wp2_with (gi_at_builtin; refine wpListIn_vapp rfl _ _ _ rfl rfl rfl HRUN.out ?_)
                  exact ⟨HKO.out, ⟨HP1.out.size, fun b hb => HP1.out.block b (HSG2.out b hb)⟩, HI2.out⟩
                | false =>
                  obtain ⟨X1, hX1⟩ : ∃ X1, X1 = X.setCell ⟨W.heap.size + 1, 0, none⟩ (.bool r) := ⟨_, rfl⟩
                  have hs1 : X1.heap.size = X.heap.size := by rw [hX1]; simp [World.setCell]
                  have bL2 : Boxed X1 W.heap.size 30 (.slice (some ⟨gr, 0, none⟩) N c3) := by rw [hX1]; exact (heap_setCell_other X ⟨W.heap.size + 1, 0, none⟩ W.heap.size _ (by show W.heap.size ≠ W.heap.size + 1; omega)).trans HBL1.out
                  have bT2 : Boxed X1 (W.heap.size + 1) 4 (.bool r) := by rw [hX1]; exact HBT.out.set _
                  have hrow2 : X1.ownsRow W.heap.size 25 1 (.slice (some ⟨gr, 0, none⟩) N c3) N (P.map u16V) := vrow_keep HROW1.out (fun b hb => by rw [hX1]; exact heap_setCell_other X ⟨W.heap.size + 1, 0, none⟩ b _ (by have := HVB.out b hb; show b ≠ W.heap.size + 1; omega))
                  have hnew : (X1.alloc (.cells #[.int .u16 (x : Nat)] 25)).cell? ⟨X.heap.size, 0, none⟩ = some (.int .u16 (x : Nat)) := by rw [← hs1]; exact World.cell?_alloc_new _ _ _ _
                  have hXl := HBL1.out.lt
                  obtain ⟨A', c', w7, hrun, hown7, hgr, hat⟩ := v_append (P := Tryd.prog) (T := 30) (ty := 30) (hrow2.alloc (.cells #[.int .u16 (x : Nat)] 25)) (by simp; omega) Tryd.underlying30 info16 rfl (by decide) (some ⟨X.heap.size, 0, none⟩) 1 1 [u16V x] (Vals.one hnew) (by simp [u16V, Value.oneCell']) (fun e => by cases e) (by omega)
                  obtain ⟨b7, a2, a3, a4, a5⟩ := bL2.appended (by decide) hrow2 (by omega) (Nat.le_refl _) hown7 hgr
                  have bT7 : Boxed w7 (W.heap.size + 1) 4 (.bool r) := (bT2.alloc _).kept hgr (fun e => by have := HVB.out _ e.symm; omega)
                  have HP1 : Hid (KpG (fun b => b < W.heap.size) X (w7.setCell ⟨W.heap.size, 0, none⟩ (.slice A' (N + 1) c'))) := by
                    refine KpG.t (B := X1) ⟨by omega, fun b hb => by rw [hX1]; exact heap_setCell_other X ⟨W.heap.size + 1, 0, none⟩ b _ (by show b ≠ W.heap.size + 1; omega)⟩ (kpG_app (fun b hb => ⟨by omega, by omega, fun e => by have := HVB.out b e; omega⟩) hgr)
                  have HI2 : Hid (((((∃ v, Boxed (w7.setCell ⟨W.heap.size, 0, none⟩ (.slice A' (N + 1) c')) W.heap.size 30 v ∧ (w7.setCell ⟨W.heap.size, 0, none⟩ (.slice A' (N + 1) c')).ownsRow W.heap.size 25 1 v (valN (pre ++ [(⟨x, hx1, hx2⟩ : N16)])).length ((valN (pre ++ [(⟨x, hx1, hx2⟩ : N16)])).map u16V) ∧ ∀ b, v.ownBlock = some b → W2.heap.size ≤ b) ∧ Boxed (w7.setCell ⟨W.heap.size, 0, none⟩ (.slice A' (N + 1) c')) (W.heap.size + 1) 4 (.bool (decide (id ∈ valN (pre ++ [(⟨x, hx1, hx2⟩ : N16)]))))) ∧ KpG (fun b => b < W.heap.size) W2 (w7.setCell ⟨W.heap.size, 0, none⟩ (.slice A' (N + 1) c'))) ∧ Srt ltN (valN (pre ++ [(⟨x, hx1, hx2⟩ : N16)])) ∧ Below w.heap.size w (w7.setCell ⟨W.heap.size, 0, none⟩ (.slice A' (N + 1) c')))) := by
                    have e1 : valN (pre ++ [(⟨x, hx1, hx2⟩ : N16)]) = P ++ [x] := by rw [valN_app, HPV.out]
                    have e2 : (P ++ [x]).length = N + 1 := by rw [List.length_append, HN.out]; rfl
                    rw [e1, e2]
                    refine ⟨⟨⟨⟨_, a2, by rw [List.map_append]; exact a3, fun b hb => ?_⟩, ?_⟩, HK2.out.t HP1.out⟩, HSN.out, ?_⟩
                    · rcases hat with h | h
                      · exact HVB.out b (h.symm.trans hb)
                      · rw [h] at hb
                        cases hb
                        simp; have := HK2.out.size; omega
                    · rw [told_dec id x P _ _ HT0.out HR0.out]
                      exact (heap_setCell_other w7 ⟨W.heap.size, 0, none⟩ (W.heap.size + 1) _ (by show W.heap.size + 1 ≠ W.heap.size; omega)).trans bT7
                    · have hB1 : Below w.heap.size w X1 := by rw [hX1]; exact HBB.out.setCell (p := ⟨W.heap.size + 1, 0, none⟩) (show w.heap.size ≤ W.heap.size + 1 by omega) _
                      exact hB1.trans (a5.mono (by omega))
                  have HKO : Hid (KeepsFrom W2.heap.size X (w7.setCell ⟨W.heap.size, 0, none⟩ (.slice A' (N + 1) c'))) := by
                    have h1 : KeepsOthers X X1 := by rw [hX1]; exact KeepsOthers.setCell _ _ _
                    exact (h1.trans a4).from _
                  have hgc := b7.cell
                  have hgf := b7.frozen
                  rw [hX1] at hrun
                  have HRUN := Lib.hid hrun
                  have cL := HBL1.out.cell
                  have cT := HBT.out.cell
                  have fT := HBT.out.frozen
                  clear hX1 hs1 bL2 bT2 hrow2 hnew hrun hown7 hgr hat b7 a2 a3 a4 a5 bT7
                  gi_wp2_with (gi_at_builtin; refine wpListIn_vapp rfl _ _ _ rfl rfl rfl HRUN.out ?_)
                  exact ⟨HKO.out, ⟨HP1.out.size, fun b hb => HP1.out.block b (HSG2.out b hb)⟩, HI2.out⟩
              · have HSN : Hid (¬ Srt ltN (P ++ [x])) := by show ¬ _; rw [hPy]; exact not_snoc hyx
                have hyI : (y : Int) ≥ (x : Int) := by omega
                have cL := bL1.cell
                clear hP hN ht0 hr hvb hrow bT hK2 hB bL1 hN0 hSr hR hN' hPy hini hcs hyx hAV AV HAV heq
                gi_wp2
                exact ⟨(KeepsOthers.setCell _ _ _).from _, rfl, by rw [valN_app, HPV.out]; exact HSN.out⟩
          case done2 =>
            rintro D2 X hD2 ⟨⟨⟨⟨v, bL1, hrow, hvb⟩, bT⟩, hK2⟩, hSr, hB⟩ hKD2
            have hR := HKP2.out X hK2 hB
            have hvl : valN LS = L := HLS.out
            rw [hvl] at hrow bT
            obtain ⟨AV, c3, rfl, _, _, _, _⟩ := vrow_form hrow
            have hDW : D < W.heap.size := (Array.getElem?_eq_some_iff.1 HKD.out).1
            have hold : ∀ b, b < W.heap.size → X.heap[b]? = W.heap[b]? := fun b hl => (hK2.block b hl).trans (HB2.out.block b hl)
            have bN : Boxed X nb 3 (.int .i64 (m : Nat)) := (hold nb hnw).trans HBN.out
            have hKD1 : X.heap[D]? = some (.deferred (some [])) := (hold D hDW).trans HKD.out
            have hXW : W2.heap.size ≤ X.heap.size := hK2.size
            have hmI : (m : Int) ≤ (L.length : Int) := by omega
            obtain ⟨s9, hs9⟩ : ∃ s9, decide (id ∈ L) = s9 := ⟨_, rfl⟩
            have hhad := hR.had
            rw [hs9] at bT hhad
            have hss : (s9 == s9) = true := by simp
            have hll2 : ((L.length : Int) == (L.length : Int)) = true := by simp
            have HS9 : Hid ((X.drew.cell? ⟨W.heap.size, 0, none⟩ = some (.slice AV L.length c3) ∧ X.drew.cell? ⟨W.heap.size + 1, 0, none⟩ = some (.bool s9) ∧ X.drew.cell? ⟨hb, 0, none⟩ = some (.bool s9) ∧ X.drew.cell? ⟨nb, 0, none⟩ = some (.int .i64 (m : Nat))) ∧ ∃ bb, Boxed X.drew (w.heap.size + 2) 4 (.bool bb)) := ⟨⟨bL1.cell, bT.cell, hhad, bN.cell⟩, _, hR.b6⟩
            have HHS := Lib.hid hs9
            have HBX := Lib.hid hB
            have HKD1 := Lib.hid hKD1
            have HKD2 := Lib.hid hKD2
            have hXl := hR.b6.lt
            have hhb := hR.hbl
            clear hR hvl hold bN hKD1 hKD2 hs9 hhad bL1 hrow hvb bT hK2 hSr hB
            go_wp2_with fail
            refine noPanic ?_
            refine wp_region_held_drew (S := (fun w' => (w'.cell? ⟨W.heap.size, 0, none⟩ = some (.slice AV L.length c3) ∧ w'.cell? ⟨W.heap.size + 1, 0, none⟩ = some (.bool s9) ∧ w'.cell? ⟨hb, 0, none⟩ = some (.bool s9) ∧ w'.cell? ⟨nb, 0, none⟩ = some (.int .i64 (m : Nat))) ∧ ∃ bb, Boxed w' (w.heap.size + 2) 4 (.bool bb))) (by kernel_rfl) (HS9.out) (fun hHeld => ?_)
            refine tkY 0 oIdRangeLaw1 ?vv12_91_0 rfl (by kernel_rfl) (by kernel_rfl) (by kernel_rfl) (fun _ _ _ h => h) (by rfl) ?hy12_91_0 (by assumption) ?rest12_91_0
            case hy12_91_0 => (intro w hSw; unfold oIdRangeLaw1; (try dsimp only at hSw); have q9 := hSw.1.1; clear hSw; go_simp; all_goals with_reducible rfl)
            try simp only [oIdRangeLaw1, Act.put, sA, sB, sC]
            refine tkY 1 oIdRangeLaw2 ?vv12_92_1 rfl (by kernel_rfl) (by kernel_rfl) (by kernel_rfl) (fun _ _ _ h => h) (by rfl) ?hy12_92_1 (by assumption) ?rest12_92_1
            case hy12_92_1 => (intro w hSw; unfold oIdRangeLaw2; (try dsimp only at hSw); (try go_split_ands); go_simp; all_goals with_reducible rfl)
            try simp only [oIdRangeLaw2, Act.put, sA, sB, sC]
            refine tkY 2 oIdRangeLaw3 ?vv12_92_2 rfl (by kernel_rfl) (by kernel_rfl) (by kernel_rfl) (fun _ _ _ h => h) (by rfl) ?hy12_92_2 (by assumption) ?rest12_92_2
            case hy12_92_2 => (intro w hSw; unfold oIdRangeLaw3; (try dsimp only at hSw); (try go_split_ands); go_simp; all_goals with_reducible rfl)
            try simp only [oIdRangeLaw3, Act.put, sA, sB, sC]
            refine tkY 3 oIdRangeLaw4 ?vv12_92_3 rfl (by kernel_rfl) (by kernel_rfl) (by kernel_rfl) (fun _ _ _ h => h) (by rfl) ?hy12_92_3 (by assumption) ?rest12_92_3
            case hy12_92_3 => (intro w hSw; unfold oIdRangeLaw4; (try dsimp only at hSw); (try go_split_ands); go_simp; all_goals with_reducible rfl)
            try simp only [oIdRangeLaw4, Act.put, sA, sB, sC]
            refine tkY 4 oIdRangeLaw5 ?vv12_92_4 rfl (by kernel_rfl) (by kernel_rfl) (by kernel_rfl) (fun _ _ _ h => h) (by rfl) ?hy12_92_4 (by assumption) ?rest12_92_4
            case hy12_92_4 => (intro w hSw; unfold oIdRangeLaw5; (try dsimp only at hSw); (try go_split_ands); go_simp; all_goals with_reducible rfl)
            try simp only [oIdRangeLaw5, Act.put, sA, sB, sC]
            refine tkY 5 oIdRangeLaw6 ?vv12_93_5 rfl (by kernel_rfl) (by kernel_rfl) (by kernel_rfl) (fun _ _ _ h => h) (by rfl) ?hy12_93_5 (by assumption) ?rest12_93_5
            case hy12_93_5 => (intro w hSw; unfold oIdRangeLaw6; (try dsimp only at hSw); have q9 := hSw.1.2.1; clear hSw; go_simp; all_goals with_reducible rfl)
            try simp only [oIdRangeLaw6, Act.put, sA, sB, sC]
            refine tkY 6 oIdRangeLaw7 ?vv12_94_6 rfl (by kernel_rfl) (by kernel_rfl) (by kernel_rfl) (fun _ _ _ h => h) (by rfl) ?hy12_94_6 (by assumption) ?rest12_94_6
            case hy12_94_6 => (intro w hSw; unfold oIdRangeLaw7; (try dsimp only at hSw); (try go_split_ands); go_simp; all_goals with_reducible rfl)
            try simp only [oIdRangeLaw7, Act.put, sA, sB, sC]
            refine tkY 7 oIdRangeLaw8 ?vv12_94_7 rfl (by kernel_rfl) (by kernel_rfl) (by kernel_rfl) (fun _ _ _ h => h) (by rfl) ?hy12_94_7 (by assumption) ?rest12_94_7
            case hy12_94_7 => (intro w hSw; unfold oIdRangeLaw8; (try dsimp only at hSw); (try go_split_ands); go_simp; all_goals with_reducible rfl)
            try simp only [oIdRangeLaw8, Act.put, sA, sB, sC]
            refine tkY 8 oIdRangeLaw9 ?vv12_95_8 rfl (by kernel_rfl) (by kernel_rfl) (by kernel_rfl) (fun _ _ _ h => h) (by rfl) ?hy12_95_8 (by assumption) ?rest12_95_8
            case hy12_95_8 => (intro w hSw; unfold oIdRangeLaw9; (try dsimp only at hSw); have q9 := hSw.1.2.2.1; clear hSw; go_simp; all_goals with_reducible rfl)
            try simp only [oIdRangeLaw9, Act.put, sA, sB, sC]
            refine tkY 9 oIdRangeLaw10 ?vv12_96_9 rfl (by kernel_rfl) (by kernel_rfl) (by kernel_rfl) (fun _ _ _ h => h) (by rfl) ?hy12_96_9 (by assumption) ?rest12_96_9
            case hy12_96_9 => (intro w hSw; unfold oIdRangeLaw10; (try dsimp only at hSw); (try go_split_ands); go_simp; all_goals with_reducible rfl)
            try simp only [oIdRangeLaw10, Act.put, sA, sB, sC]
            refine tkY 10 oIdRangeLaw11 ?vv12_96_10 rfl (by kernel_rfl) (by kernel_rfl) (by kernel_rfl) (fun _ _ _ h => h) (by rfl) ?hy12_96_10 (by assumption) ?rest12_96_10
            case hy12_96_10 => (intro w hSw; unfold oIdRangeLaw11; (try dsimp only at hSw); (try go_split_ands); go_simp; all_goals with_reducible rfl)
            try simp only [oIdRangeLaw11, Act.put, sA, sB, sC]
            refine tkY 11 oIdRangeLaw12 ?vv12_96_11 rfl (by kernel_rfl) (by kernel_rfl) (by kernel_rfl) (fun _ _ _ h => h) (by rfl) ?hy12_96_11 (by assumption) ?rest12_96_11
            case hy12_96_11 => (intro w hSw; unfold oIdRangeLaw12; (try dsimp only at hSw); (try go_split_ands); go_simp; all_goals with_reducible rfl)
            try simp only [oIdRangeLaw12, Act.put, sA, sB, sC]
            refine tkY 12 oIdRangeLaw13 ?vv12_97_12 rfl (by kernel_rfl) (by kernel_rfl) (by kernel_rfl) (fun _ _ _ h => h) (by rfl) ?hy12_97_12 (by assumption) ?rest12_97_12
            case hy12_97_12 => (intro w hSw; unfold oIdRangeLaw13; (try dsimp only at hSw); have q9 := hSw.1.2.2.2; clear hSw; go_simp; all_goals with_reducible rfl)
            try simp only [oIdRangeLaw13, Act.put, sA, sB, sC]
            refine tkY 13 oIdRangeLaw14 ?vv12_98_13 rfl (by kernel_rfl) (by kernel_rfl) (by kernel_rfl) (fun _ _ _ h => h) (by rfl) ?hy12_98_13 (by assumption) ?rest12_98_13
            case hy12_98_13 => (intro w hSw; unfold oIdRangeLaw14; (try dsimp only at hSw); have q9 := hSw.1.1; clear hSw; go_simp; all_goals with_reducible rfl)
            try simp only [oIdRangeLaw14, Act.put, sA, sB, sC]
            refine tkY 14 oIdRangeLaw15 ?vv12_99_14 rfl (by kernel_rfl) (by kernel_rfl) (by kernel_rfl) (fun _ _ _ h => h) (by rfl) ?hy12_99_14 (by assumption) ?rest12_99_14
            case hy12_99_14 => (intro w hSw; unfold oIdRangeLaw15; (try dsimp only at hSw); (try go_split_ands); go_simp; all_goals with_reducible rfl)
            try simp only [oIdRangeLaw15, Act.put, sA, sB, sC]
            refine tkY 15 oIdRangeLaw16 ?vv12_99_15 rfl (by kernel_rfl) (by kernel_rfl) (by kernel_rfl) (fun _ _ _ h => h) (by rfl) ?hy12_99_15 (by assumption) ?rest12_99_15
            case hy12_99_15 => (intro w hSw; unfold oIdRangeLaw16; (try dsimp only at hSw); (try go_split_ands); go_simp; all_goals with_reducible rfl)
            try simp only [oIdRangeLaw16, Act.put, sA, sB, sC]
            refine tkY 16 oIdRangeLaw17 ?vv12_99_16 rfl (by kernel_rfl) (by kernel_rfl) (by kernel_rfl) (fun _ _ _ h => h) (by rfl) ?hy12_99_16 (by assumption) ?rest12_99_16
            case hy12_99_16 => (intro w hSw; unfold oIdRangeLaw17; (try dsimp only at hSw); (try go_split_ands); go_simp; all_goals with_reducible rfl)
            try simp only [oIdRangeLaw17, Act.put, sA, sB, sC]
            refine tkY 17 oIdRangeLaw18 ?vv12_99_17 rfl (by kernel_rfl) (by kernel_rfl) (by kernel_rfl) (fun _ _ _ h => h) (by rfl) ?hy12_99_17 (by assumption) ?rest12_99_17
            case hy12_99_17 => (intro w hSw; unfold oIdRangeLaw18; (try dsimp only at hSw); (try go_split_ands); go_simp; all_goals with_reducible rfl)
            try simp only [oIdRangeLaw18, Act.put, sA, sB, sC]
            have hbd : Below X.heap.size X X.drew := (Below.refl _ _).drew
            refine wpAnyH_ready (rs := [18]) (by kernel_rfl) (by simp) ?_
            refine AllReadyH.cons (o := oIdRangeLaw19) rfl (fun K hK => ?_) AllReadyH.nil
            unfold oIdRangeLaw19
            go_simp
            (go_at_call 15; refine (awake_any _ (HG.out.below (below_more HBX.out hbd))).mono ?_; rintro e w9 ⟨rfl, hb9⟩)
            refine hK.out _ _ ?_ (fun hHeld => ?_)
            · (exact ⟨⟨(hb9.cell (World.block_lt_of_cell? _ _ hHeld.1.1)).trans hHeld.1.1, (hb9.cell (World.block_lt_of_cell? _ _ hHeld.1.2.1)).trans hHeld.1.2.1, (hb9.cell (World.block_lt_of_cell? _ _ hHeld.1.2.2.1)).trans hHeld.1.2.2.1, (hb9.cell (World.block_lt_of_cell? _ _ hHeld.1.2.2.2)).trans hHeld.1.2.2.2⟩, hHeld.2.elim fun bb h => ⟨bb, (hb9.block _ h.lt).trans h⟩⟩)
            clear hK K
            try simp only [oIdRangeLaw19, Act.put, sA, sB, sC]
            refine tkY 19 oIdRangeLaw20 ?vv12_100_19 rfl (by kernel_rfl) (by kernel_rfl) (by kernel_rfl) (fun _ _ _ h => h) (by rfl) ?hy12_100_19 (by assumption) ?rest12_100_19
            case hy12_100_19 => (intro w hSw; unfold oIdRangeLaw20; (try dsimp only at hSw); (try go_split_ands); go_simp; all_goals with_reducible rfl)
            try simp only [oIdRangeLaw20, Act.put, sA, sB, sC]
            obtain ⟨bb, hbb⟩ := hHeld.2
            have c6 := hbb.cell
            have f6 := hbb.frozen
            have hne6 : ∀ b, W.heap.size ≤ b → b ≠ w.heap.size + 2 := fun b h => by omega
            have HNE := Lib.hid hne6
            have HBB := Lib.hid hbb
            have HB9 := Lib.hid (below_more hbd hb9)
            have hnb6 : nb ≠ w.heap.size + 2 := by omega
            have hhb6 : hb ≠ w.heap.size + 2 := by omega
            have HN6 := Lib.hid hnb6
            have HH6 := Lib.hid hhb6
            have HHD := Lib.hid hHeld
            clear hne6 hbb hbd hb9 hnb6 hhb6
            refine wpAnyH_ready (rs := [20]) (by kernel_rfl) (by simp) ?_
            refine AllReadyH.cons (o := oIdRangeLaw21) rfl (fun K hK => ?_) AllReadyH.nil
            unfold oIdRangeLaw21
            go_simp
            refine hK.out _ _ ?_ (fun hHeld => ?_)
            · (exact ⟨⟨(World.cell?_of_block (heap_setCell_other _ ⟨w.heap.size + 2, 0, none⟩ _ _ (HNE.out _ (Nat.le_refl _)))).trans HHD.out.1.1, (World.cell?_of_block (heap_setCell_other _ ⟨w.heap.size + 2, 0, none⟩ _ _ (HNE.out _ (Nat.le_succ _)))).trans HHD.out.1.2.1, (World.cell?_of_block (heap_setCell_other _ ⟨w.heap.size + 2, 0, none⟩ _ _ HH6.out)).trans HHD.out.1.2.2.1, (World.cell?_of_block (heap_setCell_other _ ⟨w.heap.size + 2, 0, none⟩ _ _ HN6.out)).trans HHD.out.1.2.2.2⟩, true, HBB.out.set _⟩)
            clear hK K
            try simp only [oIdRangeLaw21, Act.put, sA, sB, sC]
            refine wpAnyH_done (by kernel_rfl) ?_ _
            unfold NoP
            dsimp only
            clear hHeld hss hll2 c6 f6
            have hD6 : D ≠ w.heap.size + 2 := by have := hD; omega
            have k2 : (w9.setCell ⟨w.heap.size + 2, 0, none⟩ (.bool true)).heap[D2]? = some (.deferred (some [])) := (heap_setCell_other _ ⟨w.heap.size + 2, 0, none⟩ _ _ (by show D2 ≠ w.heap.size + 2; omega)).trans ((HB9.out.block D2 (Array.getElem?_eq_some_iff.1 HKD2.out).1).trans HKD2.out)
            have k1 : (w9.setCell ⟨w.heap.size + 2, 0, none⟩ (.bool true)).heap[D]? = some (.deferred (some [])) := (heap_setCell_other _ ⟨w.heap.size + 2, 0, none⟩ _ _ hD6).trans ((HB9.out.block D (by omega)).trans HKD1.out)
            have hBf : Below w.heap.size w (w9.setCell ⟨w.heap.size + 2, 0, none⟩ (.bool true)) := (below_more HBX.out HB9.out).setCell (p := ⟨w.heap.size + 2, 0, none⟩) (by show w.heap.size ≤ w.heap.size + 2; omega) _
            have hcf : (w9.setCell ⟨w.heap.size + 2, 0, none⟩ (.bool true)).cell? ⟨w.heap.size + 2, 0, none⟩ = some (.bool true) := (HBB.out.set _).cell
            have HK2f := Lib.hid k2
            have HK1f := Lib.hid k1
            have HBf := Lib.hid hBf
            have HCf := Lib.hid hcf
            clear k1 k2 hBf hcf
            go_wp2_with fail
            have hDD : D2 ≠ D := by omega
            obtain ⟨Y, hY⟩ : ∃ Y, Y = w9.setCell ⟨w.heap.size + 2, 0, none⟩ (.bool true) := ⟨_, rfl⟩
            have kk2 := HK2f.out
            have kk1 := HK1f.out
            have hBy := HBf.out
            have hcy := HCf.out
            rw [← hY] at kk2 kk1 hBy hcy
            have hY1 : (Y.putObj D2 (.deferred none)).heap[D]? = some (.deferred (some [])) := (World.putObj_heap_other (fun e => hDD (by omega))).trans kk1
            have hBz : Below w.heap.size w ((Y.putObj D2 (.deferred none)).putObj D (.deferred none)) := (hBy.trans (belowK_b (w := w) (Nat.le_refl _) Y D2 _ _ (by omega) kk2 rfl rfl)).trans (belowK_b (w := w) (Nat.le_refl _) _ D _ _ (by omega) hY1 rfl rfl)
            have hz6 : ((Y.putObj D2 (.deferred none)).putObj D (.deferred none)).heap[w.heap.size + 2]? = Y.heap[w.heap.size + 2]? := (World.putObj_heap_other (fun e => hD6 (by omega))).trans (World.putObj_heap_other (fun e => by omega))
            have hcz : ((Y.putObj D2 (.deferred none)).putObj D (.deferred none)).cell? ⟨w.heap.size + 2, 0, none⟩ = some (.bool true) := (World.cell?_of_block (a := ⟨w.heap.size + 2, 0, none⟩) hz6).trans hcy
            refine ⟨by simp, .inl ⟨_, _, rfl, run_takeDeferred HK2f.out, ?_⟩⟩
            rw [← hY]
            refine ⟨by simp, .inl ⟨_, _, rfl, run_takeDeferred hY1, ?_⟩⟩
            exact ⟨_, results_bool rfl _ _ (w.heap.size + 2) true rfl hcz Tryd.underlying4, rfl, hBz⟩
          case stop2 =>
            rintro D2 c pre X hD2 hp ⟨_, hns⟩ _
            refine absurd ?_ hns
            have h1 : valN LS = L := HLS.out
            have h2 : Srt ltN (valN LS) := by rw [h1]; exact HR2.out.sq.srt
            exact List.Pairwise.sublist (List.Sublist.map _ hp.sublist) h2
  · have hnI : (n : Int) > 400 := by omega
    go_wp2_with fail
    rw [← hW0]
    clear hW0
    refine (awake_any _ (HG.out.below HB0.out)).mono ?_
    rintro e w6 ⟨rfl, hb6⟩
    have k6 : Boxed w6 (w.heap.size + 2) 4 (.bool false) := (hb6.block _ HK6.out.lt).trans HK6.out
    have c6 := k6.cell
    have f6 := k6.frozen
    have HK7 := Lib.hid (k6.set (.bool true))
    have hbz := (below_more HB0.out hb6).setCell (p := ⟨w.heap.size + 2, 0, none⟩) (show w.heap.size ≤ w.heap.size + 2 by omega) (.bool true)
    clear k6
    go_wp2_with fail
    exact ⟨_, results_bool rfl _ _ (w.heap.size + 2) true rfl HK7.out.cell Tryd.underlying4, rfl, hbz⟩
set_option maxRecDepth 100000 in
theorem lifted (os : Os) (started : os.Started) (H : Type) (enc : TypeId × Value → H) :
    ReturnsInHanded {} Tryd.checked os 6 .any (fun w args => (Rows.idsRangeSpec.pre enc Tryd.prog Tryd.f6 [] false w args ∧ laidMetH Tryd.prog laidL w) ∧ sizedMet enc Tryd.prog Tryd.f6 (OpenSpec.ofChange Rows.idsRangeSpec) false w args)
      (Rows.idsRangeSpec.post enc Tryd.prog Tryd.f6 false true false false) := by
  refine handed_laidT (C := Tryd.checked) (X := fun w _ => laidMetH Tryd.prog laidL w) own_none started (by kernel_rfl) Tryd.func6 (laidT_witness os Rows.idsRangeSpec #[.slice none 0 0, .int .u8 0, .int .u16 0] (by kernel_rfl) (by kernel_rfl) (by kernel_rfl)) ?_
  intro W base args ds gs before hval0 hW hlm
  have hval : ∀ (j : Nat) t v, Tryd.f6.params[j]? = some t → args[j]? = some v → Value.okWide Tryd.prog W .any base t v := hval0
  have hWk := hW
  obtain ⟨p, q, hA0, hV, hbef, _, _⟩ := hWk
  have hA : DataW.TrodAll enc Tryd.prog W 0 (fun _ => true) true Tryd.f6.params.toList args.toList ds p := hA0
  obtain ⟨rfl, rfl⟩ := trodVars_none hV
  rw [Tryd.params6] at hA hval
  obtain ⟨v0, vs0, d0, ds0, p0, q0, hargs, rfl, hp0, h0, r0⟩ := trodAll_cons hA
  obtain ⟨v1, vs1, d1, ds1, p1, q1, rfl, rfl, hp1, h1, r1⟩ := trodAll_cons r0
  obtain ⟨v2, vs2, d2, ds2, p2, q2, rfl, rfl, hp2, h2, r2⟩ := trodAll_cons r1
  obtain ⟨rfl, rfl, hpn⟩ := trodAll_nil r2
  obtain rfl : args = #[v0, v1, v2] := by cases args; simp_all
  obtain ⟨A0, n0, c0, l0, rfl, hs0, _, hc0, hn0, hi0⟩ := open_U16s Tryd.underlying30 Tryd.underlying25 cells_u16 (hval 0 30 v0 rfl rfl) h0
  obtain ⟨a1, rfl, rfl, hx1, w1⟩ := open_int Tryd.underlying5 (hval 1 5 v1 rfl rfl) h1
  obtain ⟨a2, rfl, rfl, hx2, w2⟩ := open_int Tryd.underlying25 (hval 2 25 v2 rfl rfl) h2
  refine (walk W (glot_of hlm) A0 n0 c0 l0 hs0 hc0 (by unfold maxLen at hn0; omega) hi0 a1 w1 a2 w2).mono fun e W' ⟨he, hg⟩ => ?_
  subst he
  exact ⟨_, rfl, law_post laid_out (by kernel_rfl) rfl (by kernel_rfl) Tryd.underlying4 hW rfl hg⟩

theorem over : Rows.idsRangeRow.holds Tryd.pinned (OpenSpec.ofChange Rows.idsRangeSpec) :=
  OpenClaim.holds_of_wide 6 Tryd.f6 rfl rfl rfl rfl rfl rfl rfl ⟨rfl, rfl, rfl, rfl, rfl⟩ rfl rfl rfl rfl rfl (by kernel_rfl) Tryd.func6 (by kernel_rfl)
    (of_decide_eq_true (by kernel_rfl)) (by unfold Func.isWrapper; first | (rw [if_pos (by decide +kernel)]; kernel_rfl) | (rw [if_neg (by decide +kernel)]; exact ⟨rfl, rfl⟩))
    (fun os started H enc _ => lifted os started H enc)

/-- THE STATEMENT: the card. -/
theorem proved : Rows.IdsRangeCardSaid :=
  Claim7.holds_tied_plain_at .later [] [.data] true Rows.idsRangeCard.stood.harness false over (fun _ h => by cases h) (by kernel_rfl) (fun _ h => by cases h) idsRange_row_tie rfl ⟨rfl, rfl⟩ (by kernel_rfl) rfl
    (fun f fn hf hfn => by
      obtain rfl : f = 6 := Option.some.inj ((show Tryd.prog.funcNamed Rows.idsRangeRow.func = some 6 by kernel_rfl).symm.trans hf) |>.symm
      obtain rfl : fn = Tryd.f6 := (Option.some.inj (Tryd.func6.symm.trans hfn)).symm
      exact ⟨by kernel_rfl, fun j t ht => by
        have hm : t ∈ Tryd.f6.params.toList := by simpa using Array.mem_of_getElem? ht
        have hall : (Tryd.f6.params.toList.all fun u => !Tryd.prog.wantsStandIn u) = true := by kernel_rfl
        exact (show Tryd.prog.wantsStandIn t = false by simpa using List.all_eq_true.1 hall t hm)⟩)
    (by kernel_rfl)
end lawIdsRange
end Go.Proofs.YtckgglgecpmikaaDoor
