/-
  When two packets' scalars are one, when two messages are: what the model's '==' says.
-/
import Derived.Test.YtncgkkhpcgdcaaaDoorPkKit
import Derived.Shelf.SlicesQ.Equal
set_option linter.unusedSimpArgs false
set_option linter.unusedVariables false
namespace Go.Proofs.YtncgkkhpcgdcaaaDoor
open Go.RowKit

def eqMs (t l : List UInt8) (q : Int) (r : Bool) (t' l' : List UInt8) (q' : Int) (r' : Bool) : Bool := t == t' && (l == l' && (q == q' && (r == r' && true)))
def eqPk (p q : Pk) : Bool := (p.ty == q.ty && (p.dup == q.dup && (p.qos == q.qos && (p.ret == q.ret && (p.id == q.id && (p.topic == q.topic && (p.load == q.load && (p.level == q.level && (p.clean == q.clean && (p.keep == q.keep && (p.client == q.client && (p.hasWill == q.hasWill && (eqMs p.wt p.wl p.wq p.wr q.wt q.wl q.wq q.wr && (p.hasUser == q.hasUser && (p.hasPass == q.hasPass && (p.user == q.user && (p.pass == q.pass && (p.present == q.present && (p.code == q.code && (p.codes == q.codes && true))))))))))))))))))))
theorem eqPk_iff (p q : Pk) : eqPk p q = true ↔ p = q := by
  cases p; cases q
  simp [eqPk, eqMs, and_assoc]
section
variable {P : Program} {w : World} {d : Nat} {xs ys : Array Value} {f : Field} {fs : List Field} {s : Bool}
theorem eq_step {a b : Value} {r : Bool} (hn : f.name ≠ "_") (ha : (part f.type xs f.offset).run P w = .ok a w) (hb : (part f.type ys f.offset).run P w = .ok b w) (he : (Op.equalIn d f.type a b).run P w = .ok r w)
    (hs : (Op.eqFields d xs ys fs).run P w = .ok s w) : (Op.eqFields d xs ys (f :: fs)).run P w = .ok (r && s) w := by
  simp only [Op.eqFields, hn, ne_eq, not_false_eq_true, if_true, Sem.run_bind, ha, hb, he, Result.andThen_ok]
  cases r
  · simp
  · simp [hs]
theorem part_cell {t : TypeId} {off : Nat} {v : Value} (ht : (P.underlying t).map (fun d => d.isRow) = some false) (hx : xs[off]? = some v) : (part t xs off).run P w = .ok v w := by
  obtain ⟨d, hu, hd⟩ : ∃ d, P.underlying t = some d ∧ d.isRow = false := by simpa using ht
  have hagg : (isAgg t).run P w = .ok false w := by
    unfold isAgg
    rw [Sem.run_bind, run_underlying hu w]
    cases d <;> simp_all
  unfold part
  rw [Sem.run_bind, hagg]
  simp [hx]
theorem step_int {k k' : IntKind} {a b : Int} (hn : f.name ≠ "_") (ht : P.underlying f.type = some (.int k')) (hx : xs[f.offset]? = some (.int k a)) (hy : ys[f.offset]? = some (.int k b))
    (hs : (Op.eqFields (d + 1) xs ys fs).run P w = .ok s w) : (Op.eqFields (d + 1) xs ys (f :: fs)).run P w = .ok (a == b && s) w :=
  eq_step hn (part_cell (by rw [ht]; rfl) hx) (part_cell (by rw [ht]; rfl) hy) (run_equalIn_int w d _ k k' a b ht) hs
theorem step_bool {a b : Bool} (hn : f.name ≠ "_") (ht : P.underlying f.type = some .bool) (hx : xs[f.offset]? = some (.bool a)) (hy : ys[f.offset]? = some (.bool b))
    (hs : (Op.eqFields (d + 1) xs ys fs).run P w = .ok s w) : (Op.eqFields (d + 1) xs ys (f :: fs)).run P w = .ok (a == b && s) w :=
  eq_step hn (part_cell (by rw [ht]; rfl) hx) (part_cell (by rw [ht]; rfl) hy) (run_equalIn_bool' w d _ a b ht) hs
theorem step_str {a b : List UInt8} (hn : f.name ≠ "_") (ht : P.underlying f.type = some .string) (hx : xs[f.offset]? = some (.string ⟨a.toArray⟩)) (hy : ys[f.offset]? = some (.string ⟨b.toArray⟩))
    (hs : (Op.eqFields (d + 1) xs ys fs).run P w = .ok s w) : (Op.eqFields (d + 1) xs ys (f :: fs)).run P w = .ok (a == b && s) w := by
  refine eq_step (r := a == b) hn (part_cell (by rw [ht]; rfl) hx) (part_cell (by rw [ht]; rfl) hy) ?_ hs
  rw [run_equalIn_string w d _ _ _ ht, ByteArray.toList_eq, ByteArray.toList_eq]
end
section
variable {w : World} {d : Nat}
@[go_sem high] theorem eq_ms (t l : List UInt8) (q : Int) (r : Bool) (t' l' : List UInt8) (q' : Int) (r' : Bool) : (Op.equalIn (d + 2) 27 (.agg (MsC t l q r)) (.agg (MsC t' l' q' r'))).run Tryd.prog w = .ok (eqMs t l q r t' l' q' r') w := by
  rw [run_equalIn_agg w (d + 1) _ _ _ (by kernel_rfl) (by kernel_rfl)]
  simp only [Program.fieldsOf, Tryd.underlying27]
  refine step_str (by decide) (by kernel_rfl) (MsC_0 ..) (MsC_0 ..) ?_
  refine step_str (by decide) (by kernel_rfl) (MsC_1 ..) (MsC_1 ..) ?_
  refine step_int (k' := .u8) (by decide) (by kernel_rfl) (MsC_2 ..) (MsC_2 ..) ?_
  refine step_bool (by decide) (by kernel_rfl) (MsC_3 ..) (MsC_3 ..) ?_
  rfl
theorem part_ms (p : Pk) : (part 27 (ScC p) 12).run Tryd.prog w = .ok (.agg (MsC p.wt p.wl p.wq p.wr)) w := by
  unfold part
  rw [Sem.run_bind, Tryd.isAgg27]
  simp only [Result.andThen_ok, if_true, Sem.run_bind, Tryd.sizeOf27, Sem.run_pure]
  rw [show (ScC p).extract 12 (12 + 4) = MsC p.wt p.wl p.wq p.wr by simp [ScC, MsC]]
set_option maxHeartbeats 1000000 in
@[go_sem high] theorem eq_sc (p q : Pk) : (Op.equalIn (d + 3) 77 (.agg (ScC p)) (.agg (ScC q))).run Tryd.prog w = .ok (eqPk p q) w := by
  rw [run_equalIn_agg w (d + 2) _ _ _ (by kernel_rfl) (by kernel_rfl)]
  simp only [Program.fieldsOf, Tryd.underlying77]
  unfold eqPk
  refine step_int (k' := .u8) (by decide) (by kernel_rfl) (ScC_0 ..) (ScC_0 ..) ?_
  refine step_bool (by decide) (by kernel_rfl) (ScC_1 ..) (ScC_1 ..) ?_
  refine step_int (k' := .u8) (by decide) (by kernel_rfl) (ScC_2 ..) (ScC_2 ..) ?_
  refine step_bool (by decide) (by kernel_rfl) (ScC_3 ..) (ScC_3 ..) ?_
  refine step_int (k' := .u16) (by decide) (by kernel_rfl) (ScC_4 ..) (ScC_4 ..) ?_
  refine step_str (by decide) (by kernel_rfl) (ScC_5 ..) (ScC_5 ..) ?_
  refine step_str (by decide) (by kernel_rfl) (ScC_6 ..) (ScC_6 ..) ?_
  refine step_int (k' := .u8) (by decide) (by kernel_rfl) (ScC_7 ..) (ScC_7 ..) ?_
  refine step_bool (by decide) (by kernel_rfl) (ScC_8 ..) (ScC_8 ..) ?_
  refine step_int (k' := .u16) (by decide) (by kernel_rfl) (ScC_9 ..) (ScC_9 ..) ?_
  refine step_str (by decide) (by kernel_rfl) (ScC_10 ..) (ScC_10 ..) ?_
  refine step_bool (by decide) (by kernel_rfl) (ScC_11 ..) (ScC_11 ..) ?_
  refine eq_step (by decide) (part_ms p) (part_ms q) (eq_ms ..) ?_
  refine step_bool (by decide) (by kernel_rfl) (ScC_16 ..) (ScC_16 ..) ?_
  refine step_bool (by decide) (by kernel_rfl) (ScC_17 ..) (ScC_17 ..) ?_
  refine step_str (by decide) (by kernel_rfl) (ScC_18 ..) (ScC_18 ..) ?_
  refine step_str (by decide) (by kernel_rfl) (ScC_19 ..) (ScC_19 ..) ?_
  refine step_bool (by decide) (by kernel_rfl) (ScC_20 ..) (ScC_20 ..) ?_
  refine step_int (k' := .u8) (by decide) (by kernel_rfl) (ScC_21 ..) (ScC_21 ..) ?_
  refine step_str (by decide) (by kernel_rfl) (ScC_22 ..) (ScC_22 ..) ?_
  rfl
@[go_sem high] theorem eq_sc0 (p q : Pk) : (Op.equalIn 10000 77 (.agg (ScC p)) (.agg (ScC q))).run Tryd.prog w = .ok (eqPk p q) w := eq_sc (d := 9997) p q
@[go_sem high] theorem eq_ms0 (t l : List UInt8) (q : Int) (r : Bool) (t' l' : List UInt8) (q' : Int) (r' : Bool) : (Op.equalIn 10000 27 (.agg (MsC t l q r)) (.agg (MsC t' l' q' r'))).run Tryd.prog w = .ok (eqMs t l q r t' l' q' r') w := eq_ms (d := 9998) ..
end
end Go.Proofs.YtncgkkhpcgdcaaaDoor
