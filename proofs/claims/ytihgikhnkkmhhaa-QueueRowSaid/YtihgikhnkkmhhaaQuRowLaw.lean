/-
  QueueRow: messages that are numbered are popped in the row in which they were pushed, each once, and what was not popped is there in the end. For every input; no condition.
-/
import Derived.Test.YtihgikhnkkmhhaaQuAwake
set_option linter.unusedSimpArgs false
set_option linter.unusedVariables false
namespace Go.Proofs.Ytihgikhnkkmhhaa.lawQueueRow
section
open Go.RowKit
def oQuRowLaw1 : Oper := ({ dst := some 74, op := Go.Op.move (Go.Operand.tmp 12), type := 4, pos := "outright.go:33", after := #[], guard := none } : Oper)
def oQuRowLaw2 : Oper := ({ dst := some 75, op := Go.Op.move (Go.Operand.tmp 7), type := 3, pos := "outright.go:33", after := #[], guard := none } : Oper)
def oQuRowLaw3 : Oper := ({ dst := some 76, op := Go.Op.move (Go.Operand.tmp 6), type := 22, pos := "outright.go:33", after := #[], guard := none } : Oper)
def oQuRowLaw4 : Oper := ({ dst := some 77, op := Go.Op.call { callee := Go.Callee.builtin Go.Builtin.len, args := #[Go.Operand.tmp 76], argTypes := #[22] }, type := 3, pos := "outright.go:33", after := #[{ on := 2, ground := Go.Ground.data }], guard := none } : Oper)
def oQuRowLaw5 : Oper := ({ dst := some 78, op := Go.Op.binOp Go.BinOp.lss 3 (Go.Operand.tmp 75) (Go.Operand.tmp 77) 3, type := 4, pos := "outright.go:33", after := #[{ on := 1, ground := Go.Ground.data }, { on := 3, ground := Go.Ground.data }], guard := none } : Oper)
def oQuRowLaw6 : Oper := ({ dst := some 79, op := Go.Op.binOp Go.BinOp.neq 4 (Go.Operand.tmp 74) (Go.Operand.tmp 78) 4, type := 4, pos := "outright.go:33", after := #[{ on := 0, ground := Go.Ground.data }, { on := 4, ground := Go.Ground.data }], guard := none } : Oper)
def oQuRowLaw7 : Oper := ({ dst := some 80, op := Go.Op.move (Go.Operand.tmp 79), type := 4, pos := "outright.go:33", after := #[{ on := 5, ground := Go.Ground.data }], guard := none } : Oper)
def oQuRowLaw8 : Oper := ({ dst := some 81, op := Go.Op.move (Go.Operand.tmp 12), type := 4, pos := "outright.go:33", after := #[{ on := 6, ground := Go.Ground.guard }], guard := some (6, false) } : Oper)
def oQuRowLaw9 : Oper := ({ dst := some 82, op := Go.Op.move (Go.Operand.tmp 81), type := 4, pos := "outright.go:33", after := #[{ on := 7, ground := Go.Ground.data }, { on := 6, ground := Go.Ground.chain }, { on := 6, ground := Go.Ground.guard }], guard := some (6, false) } : Oper)
def oQuRowLaw10 : Oper := ({ dst := some 83, op := Go.Op.fieldAddr 28 (Go.Operand.tmp 11) 1, type := 0, pos := "outright.go:33", after := #[{ on := 8, ground := Go.Ground.guard }], guard := some (8, true) } : Oper)
def oQuRowLaw11 : Oper := ({ dst := some 84, op := Go.Op.load 9 (Go.Operand.tmp 83), type := 9, pos := "outright.go:33", after := #[{ on := 9, ground := Go.Ground.data }, { on := 8, ground := Go.Ground.guard }], guard := some (8, true) } : Oper)
def oQuRowLaw12 : Oper := ({ dst := some 85, op := Go.Op.move (Go.Operand.tmp 6), type := 22, pos := "outright.go:33", after := #[{ on := 8, ground := Go.Ground.guard }], guard := some (8, true) } : Oper)
def oQuRowLaw13 : Oper := ({ dst := some 86, op := Go.Op.move (Go.Operand.tmp 7), type := 3, pos := "outright.go:33", after := #[{ on := 8, ground := Go.Ground.guard }], guard := some (8, true) } : Oper)
def oQuRowLaw14 : Oper := ({ dst := some 87, op := Go.Op.indexAddr 22 (Go.Operand.tmp 85) (Go.Operand.tmp 86), type := 0, pos := "outright.go:33", after := #[{ on := 11, ground := Go.Ground.data }, { on := 12, ground := Go.Ground.data }, { on := 8, ground := Go.Ground.guard }], guard := some (8, true) } : Oper)
def oQuRowLaw15 : Oper := ({ dst := some 88, op := Go.Op.load 3 (Go.Operand.tmp 87), type := 3, pos := "outright.go:33", after := #[{ on := 13, ground := Go.Ground.data }, { on := 8, ground := Go.Ground.guard }], guard := some (8, true) } : Oper)
def oQuRowLaw16 : Oper := ({ dst := some 89, op := Go.Op.call { callee := Go.Callee.value (Go.Operand.func 23), args := #[Go.Operand.tmp 88], argTypes := #[3] }, type := 9, pos := "outright.go:33", after := #[{ on := 14, ground := Go.Ground.data }, { on := 8, ground := Go.Ground.chain }, { on := 8, ground := Go.Ground.guard }], guard := some (8, true) } : Oper)
def oQuRowLaw17 : Oper := ({ dst := some 90, op := Go.Op.binOp Go.BinOp.neq 9 (Go.Operand.tmp 84) (Go.Operand.tmp 89) 9, type := 4, pos := "outright.go:33", after := #[{ on := 10, ground := Go.Ground.data }, { on := 15, ground := Go.Ground.data }, { on := 8, ground := Go.Ground.guard }], guard := some (8, true) } : Oper)
def oQuRowLaw18 : Oper := ({ dst := some 91, op := Go.Op.pick (Go.Operand.tmp 82) (Go.Operand.tmp 90) (Go.Operand.const (Go.Value.bool false)), type := 4, pos := "outright.go:33", after := #[{ on := 8, ground := Go.Ground.data }, { on := 16, ground := Go.Ground.data }, { on := 6, ground := Go.Ground.guard }], guard := some (6, false) } : Oper)
def oQuRowLaw19 : Oper := ({ dst := some 92, op := Go.Op.pick (Go.Operand.tmp 80) (Go.Operand.const (Go.Value.bool true)) (Go.Operand.tmp 91), type := 4, pos := "outright.go:33", after := #[{ on := 6, ground := Go.Ground.data }, { on := 17, ground := Go.Ground.data }], guard := none } : Oper)
def oQuRowLaw20 : Oper := ({ dst := some 111, op := Go.Op.move (Go.Operand.tmp 13), type := 30, pos := "outright.go:45", after := #[], guard := none } : Oper)
def oQuRowLaw21 : Oper := ({ dst := some 112, op := Go.Op.move (Go.Operand.tmp 14), type := 3, pos := "outright.go:45", after := #[], guard := none } : Oper)
def oQuRowLaw22 : Oper := ({ dst := some 113, op := Go.Op.indexAddr 30 (Go.Operand.tmp 111) (Go.Operand.tmp 112), type := 0, pos := "outright.go:45", after := #[{ on := 0, ground := Go.Ground.data }, { on := 1, ground := Go.Ground.data }], guard := none } : Oper)
def oQuRowLaw23 : Oper := ({ dst := some 114, op := Go.Op.fieldAddr 28 (Go.Operand.tmp 113) 1, type := 0, pos := "outright.go:45", after := #[{ on := 2, ground := Go.Ground.data }], guard := none } : Oper)
def oQuRowLaw24 : Oper := ({ dst := some 115, op := Go.Op.load 9 (Go.Operand.tmp 114), type := 9, pos := "outright.go:45", after := #[{ on := 3, ground := Go.Ground.data }], guard := none } : Oper)
def oQuRowLaw25 : Oper := ({ dst := some 116, op := Go.Op.move (Go.Operand.tmp 6), type := 22, pos := "outright.go:45", after := #[], guard := none } : Oper)
def oQuRowLaw26 : Oper := ({ dst := some 117, op := Go.Op.move (Go.Operand.tmp 7), type := 3, pos := "outright.go:45", after := #[], guard := none } : Oper)
def oQuRowLaw27 : Oper := ({ dst := some 118, op := Go.Op.move (Go.Operand.tmp 14), type := 3, pos := "outright.go:45", after := #[], guard := none } : Oper)
def oQuRowLaw28 : Oper := ({ dst := some 119, op := Go.Op.binOp Go.BinOp.add 3 (Go.Operand.tmp 117) (Go.Operand.tmp 118) 3, type := 3, pos := "outright.go:45", after := #[{ on := 6, ground := Go.Ground.data }, { on := 7, ground := Go.Ground.data }], guard := none } : Oper)
def oQuRowLaw29 : Oper := ({ dst := some 120, op := Go.Op.indexAddr 22 (Go.Operand.tmp 116) (Go.Operand.tmp 119), type := 0, pos := "outright.go:45", after := #[{ on := 5, ground := Go.Ground.data }, { on := 8, ground := Go.Ground.data }], guard := none } : Oper)
def oQuRowLaw30 : Oper := ({ dst := some 121, op := Go.Op.load 3 (Go.Operand.tmp 120), type := 3, pos := "outright.go:45", after := #[{ on := 9, ground := Go.Ground.data }], guard := none } : Oper)
def oQuRowLaw31 : Oper := ({ dst := some 122, op := Go.Op.call { callee := Go.Callee.value (Go.Operand.func 23), args := #[Go.Operand.tmp 121], argTypes := #[3] }, type := 9, pos := "outright.go:45", after := #[{ on := 10, ground := Go.Ground.data }], guard := none } : Oper)
def oQuRowLaw32 : Oper := ({ dst := some 123, op := Go.Op.binOp Go.BinOp.neq 9 (Go.Operand.tmp 115) (Go.Operand.tmp 122) 9, type := 4, pos := "outright.go:45", after := #[{ on := 4, ground := Go.Ground.data }, { on := 11, ground := Go.Ground.data }], guard := none } : Oper)
end
open Go.RowKit Go.ChangeShapes Go.WideShapes Go.ChangeAt

def iV (x : Nat) : Value := .int .i64 (x : Int)
/-- The row of numbers that the statement keeps: none of the queue's. -/
def RK (w wr : World) (F : Nat → Prop) (A : Option Addr) (R : List Nat) (c : Nat) : Prop :=
  wr.ownsRow w.heap.size 3 1 (.slice A R.length c) R.length (R.map iV) ∧ ∀ b, (Value.slice A R.length c).ownBlock = some b → ¬ F b
section
variable {w wr w' : World} {F F' : Nat → Prop} {A : Option Addr} {R : List Nat} {c t M : Nat} {L : List Ms}
theorem RK.nil (F : Nat → Prop) : RK w wr F none [] 0 := ⟨World.ownsRow_nil _ _ _ _, fun b h => by simp [Value.ownBlock] at h⟩
theorem RK.sv (h : RK w wr F A R c) (hs : Sv wr w' F F') : RK w w' F' A R c :=
  ⟨vrow_keep h.1 (fun b hb => hs.kept b (h.1.lt b hb).2 (h.2 b hb)), fun b hb => hs.out b (h.1.lt b hb).2 (h.2 b hb)⟩
theorem RK.below (h : RK w wr F A R c) (hb : Below wr.heap.size wr w') : RK w w' F A R c := h.sv (Sv.below hb)
theorem RK.at_ (h : RK w wr F A R c) {k : Nat} (hk : k < R.length) : ∃ b x, A = some ⟨b, 0, none⟩ ∧ R[k]? = some x ∧ wr.cell? ⟨b, k, none⟩ = some (.int .i64 (x : Int)) := by
  obtain ⟨g, c', e, _, _, _, hc, _⟩ := vrow_form1 h.1 (by omega)
  injection e with e1
  refine ⟨g, R[k], e1, List.getElem?_eq_getElem hk, ?_⟩
  exact hc k _ (by rw [List.getElem?_map, List.getElem?_eq_getElem hk]; rfl)
theorem int_info : (Try.prog.info? 3).map (fun i => (i.zero, i.size, i.bytes)) = some (some (.int .i64 0), 1, 8) := by kernel_rfl
theorem RK.app (h : RK w wr F A R c) (hq : QX w wr t F M L) (k : Nat) (hl : R.length ≤ 100000) :
    ∃ A' c' w4, (Builtin.append_ #[22, 22] 22 #[.slice A R.length c, .slice (some ⟨wr.heap.size, 0, none⟩) 1 1]).run Try.prog (wr.alloc (.cells #[.int .i64 (k : Int)] 3)) = .ok (.slice A' (R ++ [k]).length c') w4 ∧ RK w w4 F A' (R ++ [k]) c' ∧ QX w w4 t F M L := by
  have hbA : Below wr.heap.size wr (wr.alloc (.cells #[.int .i64 (k : Int)] 3)) := below_alloc (Below.refl _ _) _
  have hqA := hq.below hbA
  have hcell : (wr.alloc (.cells #[.int .i64 (k : Int)] 3)).cell? ⟨wr.heap.size, 0, none⟩ = some (.int .i64 (k : Int)) := World.cell?_alloc_new _ _ _ _
  have hs := hqA.b.size
  obtain ⟨A', c', w4, hrun, hown, hgr, hat⟩ := v_append (P := Try.prog) (T := 22) (ty := 22) (h.1.alloc (.cells #[.int .i64 (k : Int)] 3)) hs Try.underlying22 int_info rfl (by decide) (some ⟨wr.heap.size, 0, none⟩) 1 1 [.int .i64 (k : Int)] (Vals.one hcell) (by simp [Value.oneCell']) (fun e => by cases e) (by omega)
  have hlen : (R ++ [k]).length = R.length + 1 := by simp
  refine ⟨A', c', w4, by rw [hlen]; exact hrun, ⟨by rw [hlen, List.map_append]; exact hown, fun b hb => ?_⟩, ⟨hqA.q.keep fun b hF => ?_, hqA.b.grown hgr hs (fun b hb => (h.1.lt b hb).1), hq.f⟩⟩
  · rw [hlen] at hb
    rcases hat with h2 | h2
    · exact h.2 b (h2 ▸ hb)
    · rw [hb] at h2
      injection h2 with h2
      rw [h2]
      exact hqA.new
  · exact hgr.block b (hqA.q.lt b hF) (fun e => h.2 b e.symm hF)
end
/-- What waits has the numbers of what was not popped. -/
def Nums (L : List Ms) (R : List Nat) (p : Nat) : Prop := L.map (fun m => m.2.1) = (R.drop p).map numQ ∧ p ≤ R.length ∧ ∀ x ∈ R, x ≤ 2500
theorem Nums.len {L : List Ms} {R : List Nat} {p : Nat} (h : Nums L R p) : L.length + p = R.length := by
  have := congrArg List.length h.1
  have h2 := h.2.1
  simp at this
  omega
theorem Nums.push {L : List Ms} {R : List Nat} {p k : Nat} {m : Ms} (h : Nums L R p) (hm : m.2.1 = numQ k) (hk : k ≤ 2500) : Nums (L ++ [m]) (R ++ [k]) p := by
  refine ⟨?_, by have := h.2.1; simp; omega, fun x hx => ?_⟩
  · rw [List.map_append, h.1, List.drop_append_of_le_length h.2.1, List.map_append]
    simp [hm]
  · rcases List.mem_append.1 hx with hx | hx
    · exact h.2.2 x hx
    · simp at hx; omega
theorem Nums.pop {m : Ms} {L : List Ms} {R : List Nat} {p : Nat} (h : Nums (m :: L) R p) : ∃ x, R[p]? = some x ∧ m.2.1 = numQ x ∧ x ≤ 2500 ∧ Nums L R (p + 1) ∧ p < R.length := by
  have hl := h.len
  rw [List.length_cons] at hl
  have hp : p < R.length := by omega
  have h1 := h.1
  rw [List.drop_eq_getElem_cons hp, List.map_cons, List.map_cons] at h1
  injection h1 with h2 h3
  exact ⟨R[p], List.getElem?_eq_getElem hp, h2, h.2.2 _ (List.getElem_mem hp), ⟨h3, hp, h.2.2⟩, hp⟩
theorem Nums.at_ {L : List Ms} {R : List Nat} {p j : Nat} {m : Ms} (h : Nums L R p) (hm : L[j]? = some m) : ∃ x, R[p + j]? = some x ∧ m.2.1 = numQ x ∧ x ≤ 2500 := by
  have h1 := congrArg (fun l => l[j]?) h.1
  simp only [List.getElem?_map, hm, List.getElem?_drop, Option.map_some] at h1
  cases hx : R[p + j]? with
  | none => rw [hx] at h1; cases h1
  | some x =>
    rw [hx] at h1
    simp at h1
    exact ⟨x, rfl, h1, h.2.2 x (List.mem_of_getElem? hx)⟩
set_option maxHeartbeats 8000000 in
set_option maxRecDepth 100000 in
theorem walk (w : World) (most : Int) (_wm : (Lit.int .i64 most).wf = true) (A : Option Addr) (n c : Nat) (l : List Aq) (hs : Aqs w A n l) (hn : n ≤ 9223372036854775807) (hi : Hid (∀ x ∈ l, AqIn x)) :
    Calls Try.prog 5 #[.int .i64 most, .slice A n c] w fun e w' => e = .returned (.bool true) ∧ Below w.heap.size w w' := by
  have HS := Lib.hid hs
  have HL := Lib.hid hs.len
  have HG := Lib.hid (great12_any A n c l w hs hn hi)
  clear hs
  go_enter Try.func5, Try.ntmps5
  go_wp2_with fail
  refine HG.out.mono ?_
  rintro e w1 ⟨gb, rfl, hok, hb⟩
  have HB := Lib.hid hb
  clear hb HG
  cases gb with
  | true =>
    go_wp2_with fail
    refine (awake12_any _).mono ?_
    rintro e w2 ⟨rfl, hb⟩
    go_wp2_with fail
    go_ret
    exact ⟨rfl, below_more HB.out hb⟩
  | false =>
    have HOK := Lib.hid (hok rfl)
    clear hok
    by_cases hm : most < 1 ∨ 1024 < most
    · go_wp2_with fail
      refine (qNewN _ most hm).mono ?_
      rintro e w2 ⟨rfl, rfl⟩
      rcases hm with hm | hm
      · go_wp2_with fail
        refine (awake12_any _).mono ?_
        rintro e w2 ⟨rfl, hb⟩
        go_wp2_with fail
        go_ret
        exact ⟨rfl, below_more HB.out hb⟩
      · have hm1 : ¬ most < 1 := by omega
        go_wp2_with fail
        refine (awake12_any _).mono ?_
        rintro e w2 ⟨rfl, hb⟩
        go_wp2_with fail
        go_ret
        exact ⟨rfl, below_more HB.out hb⟩
    · obtain ⟨M, rfl⟩ : ∃ M : Nat, most = (M : Int) := ⟨most.toNat, by omega⟩
      have hM1 : 1 ≤ M := by omega
      have hM2 : M ≤ 1024 := by omega
      have hn2 : n ≤ 2500 := by have := HOK.out.1; rw [HL.out] at this; exact this
      clear hm
      go_wp2_with fail
      refine (xNew HB.out M hM1 hM2).mono ?_
      rintro e w2 ⟨t, F, rfl, hQ⟩
      have HQ := Lib.hid hQ
      clear hQ HB
      go_wp2_with fail
      go_loopw [6, 7, 8] (fun rv pv i wr => ∃ (k p cR : Nat) (R : List Nat) (L : List Ms) (F : Nat → Prop) (AR : Option Addr), rv = .slice AR R.length cR ∧ pv = .int .i64 p ∧ i = .int .i64 k ∧ k ≤ n ∧ R.length ≤ k ∧ QX w wr t F M L ∧ RK w wr F AR R cR ∧ Hid (Nums L R p)) (fun _ _ i _ => n - (intOf i).toNat)
      case atStart => exact ⟨0, 0, 0, [], [], F, none, rfl, rfl, rfl, by omega, by simp, HQ.out, RK.nil F, rfl, by simp, by simp⟩
      case round =>
        clear HQ
        obtain ⟨k, p, cR, R, L, F, AR, rfl, rfl, rfl, hk, hRk, hQ, hR, hN⟩ := hrel
        have HQ := Lib.hid hQ
        have HR := Lib.hid hR
        clear hQ hR
        by_cases hlt : k < n
        · have hltI : (k : Int) < (n : Int) := by omega
          obtain ⟨b1, o1, x, rfl, hx, c0, c1, c2, c3, c4⟩ := (HS.out.below HQ.out.b).at_ hlt
          have hsz := HOK.out.2 x (List.mem_of_getElem? hx)
          obtain ⟨hk0, hk255, _⟩ := hi.out x (List.mem_of_getElem? hx)
          obtain ⟨xk, xf, xc, xq, xb⟩ := x
          dsimp only at hsz hk0 hk255 c0 c1 c2 c3 c4
          obtain ⟨q, hq⟩ : ∃ q : Int, xk % 8 = q := ⟨_, rfl⟩
          have hqm : Int.tmod xk 8 = q := by rw [Int.tmod_eq_emod_of_nonneg (by omega)]; exact hq
          clear hx
          have hNl := hN.out.len
          by_cases hq4 : q < 4
          · obtain ⟨d, hd⟩ : ∃ d, R.length - p = d := ⟨_, rfl⟩
            have hdI : (R.length : Int) - (p : Int) = (d : Int) := by omega
            have hdw := IntWalk.i64_in (d : Int) (by omega)
            have hLd : L.length = d := by omega
            have hdM := HQ.out.q.le
            have hxf : xf.length ≤ 1000000 := by omega
            obtain ⟨B, hB⟩ : ∃ B, B = wr.heap.size := ⟨_, rfl⟩
            obtain ⟨W1, hW1⟩ : ∃ x, x = wr.alloc (.cells #[.string ⟨xf.toArray⟩, .string ⟨xc.toArray⟩, .int .u8 xq, .bool xb] 28) := ⟨_, rfl⟩
            have hbW : Below wr.heap.size wr W1 := by rw [hW1]; exact below_alloc (Below.refl _ _) _
            have hX : BxM W1 B (xf, xc, xq, xb) := by rw [hW1, hB]; exact BxM.new wr (xf, xc, xq, xb)
            have HX := Lib.hid hX
            have HBW := Lib.hid hbW
            clear hd hq hNl hX hbW
            go_wp2_with fail
            rw [← hW1, ← hB]
            clear hW1
            refine (number_eq k _ (by omega)).mono ?_
            rintro e w3 ⟨rfl, hb3⟩
            have X3 := HX.out.below hb3
            have x1 := X3.c1
            have xf1 := X3.fr 1
            have X4 := X3.set1 (numQ k)
            have y0 := X4.c0; have y1 := X4.c1; have y2 := X4.c2; have y3 := X4.c3
            dsimp only at x1 y0 y1 y2 y3
            have hb4 : Below wr.heap.size wr (w3.setCell ⟨B, 1, none⟩ (.string ⟨(numQ k).toArray⟩)) := (below_more HBW.out hb3).setCell (p := ⟨B, 1, none⟩) (by show _ ≤ B; omega) _
            have HQ4 := Lib.hid (HQ.out.below hb4)
            have HR4 := Lib.hid (HR.out.below hb4)
            clear X3 X4 hb3 hb4 HX HBW HQ HR hB
            by_cases hfl : d = M
            · have hfb : ((d : Int) == (M : Int)) = true := by simp; omega
              have hfb2 : (d == M) = true := by simp; omega
              have HLM : Hid (L.length = M) := by show _ = _; omega
              clear hfl hLd
              go_wp2_with fail
              refine (xPush HQ4.out (xf, numQ k, xq, xb) false L hxf (by show 2 ≤ _; omega) (by rw [HLM.out]; simp) (by rw [HLM.out]; simp)).mono ?_
              rintro e w5 ⟨F5, rfl, hQ5, hS5⟩
              have HQ5 := Lib.hid hQ5
              have HR5 := Lib.hid (HR4.out.sv hS5)
              clear hQ5 hS5 HQ4 HR4 x1 xf1 y0 y1 y2 y3
              go_wp2_with fail
              go_roundw
              case rel => exact ⟨k + 1, p, cR, R, L, F5, AR, rfl, rfl, by go_num, by omega, by omega, HQ5.out, HR5.out, hN⟩
              case measure => simp [intOf]; omega
            · have hfb : ((d : Int) == (M : Int)) = false := by simp; omega
              have hfb2 : (d == M) = false := by simp; omega
              have HLM : Hid (L.length < M) := by show _ < _; omega
              have HN2 : Hid (Nums (L ++ [(xf, numQ k, xq, xb)]) (R ++ [k]) p) := hN.out.push rfl (by omega)
              clear hfl hLd
              go_wp2_with fail
              refine (xPush HQ4.out (xf, numQ k, xq, xb) true (L ++ [(xf, numQ k, xq, xb)]) hxf (by show 2 ≤ _; omega) (decide_eq_true HLM.out) (by rw [if_pos HLM.out])).mono ?_
              rintro e w5 ⟨F5, rfl, hQ5, hS5⟩
              obtain ⟨A', c', w6, hrun, hR6, hQ6⟩ := (HR4.out.sv hS5).app hQ5 k (by omega)
              have HQ6 := Lib.hid hQ6
              have HR6 := Lib.hid hR6
              have HRun := Lib.hid hrun
              clear hQ5 hS5 HQ4 HR4 x1 xf1 y0 y1 y2 y3 hrun hR6 hQ6
              go_wp2_with (at_builtin; refine wpList_vapp rfl _ _ _ rfl rfl rfl HRun.out ?_)
              go_wp2_with fail
              go_roundw
              case rel => exact ⟨k + 1, p, c', R ++ [k], _, F5, A', by simp, rfl, by go_num, by omega, by simp; omega, HQ6.out, HR6.out, HN2⟩
              case measure => simp [intOf]; omega
          · cases L with
            | nil =>
              have hpl : p = R.length := by simpa using hNl
              have i1 : ¬ (p : Int) < (R.length : Int) := by omega
              have i2 : decide (p < R.length) = false := by simp; omega
              clear hpl hNl
              go_wp2_with fail
              refine (xPop HQ.out).mono ?_
              rintro e w3 ⟨F3, rfl, hQ3, hS3⟩
              rw [show pkV [] = .tuple #[.agg #[.string ⟨#[]⟩, .string ⟨#[]⟩, .int .u8 0, .bool false], .bool false] from rfl]
              obtain ⟨W, hW⟩ : ∃ x, x = w3.alloc (.cells #[.string ⟨#[]⟩, .string ⟨#[]⟩, .int .u8 0, .bool false] 28) := ⟨_, rfl⟩
              have hbW : Below w3.heap.size w3 W := by rw [hW]; exact below_alloc (Below.refl _ _) _
              have HQ3 := Lib.hid (hQ3.below hbW)
              have HR3 := Lib.hid ((HR.out.sv hS3).below hbW)
              clear hQ3 hS3 hbW HQ HR
              go_wp2_with fail
              rw [← hW]
              clear hW
              go_quiet (fail)
              have hb9 : Below W.heap.size W (W.drewN nq) := below_drewN (Below.refl _ _) nq
              generalize W.drewN nq = W9 at hb9 ⊢
              have HQ9 := Lib.hid (HQ3.out.below hb9)
              have HR9 := Lib.hid (HR3.out.below hb9)
              clear hb9 HQ3 HR3
              go_wp2_with fail
              go_roundw
              case rel => exact ⟨k + 1, p, cR, R, [], F3, AR, rfl, rfl, by go_num, by omega, by omega, HQ9.out, HR9.out, hN⟩
              case measure => simp [intOf]; omega
            | cons m L =>
              obtain ⟨y, hy, hpay, hyl, hN2, hpl⟩ := hN.out.pop
              have i1 : (p : Int) < (R.length : Int) := by omega
              have i2 : decide (p < R.length) = true := by simp; omega
              obtain ⟨m1, m2, m3, m4⟩ := m
              dsimp only at hpay
              subst hpay
              have HN2 := Lib.hid hN2
              clear hN2 hNl
              go_wp2_with fail
              refine (xPop HQ.out).mono ?_
              rintro e w3 ⟨F3, rfl, hQ3, hS3⟩
              replace hQ3 : QX w w3 t F3 M L := hQ3
              rw [show pkV ((m1, numQ y, m3, m4) :: L) = .tuple #[.agg #[.string ⟨m1.toArray⟩, .string ⟨(numQ y).toArray⟩, .int .u8 m3, .bool m4], .bool true] from rfl]
              obtain ⟨W, hW⟩ : ∃ x, x = w3.alloc (.cells #[.string ⟨m1.toArray⟩, .string ⟨(numQ y).toArray⟩, .int .u8 m3, .bool m4] 28) := ⟨_, rfl⟩
              have hbW : Below w3.heap.size w3 W := by rw [hW]; exact below_alloc (Below.refl _ _) _
              have hX : BxM W w3.heap.size (m1, numQ y, m3, m4) := by rw [hW]; exact BxM.new w3 (m1, numQ y, m3, m4)
              have x1 := hX.c1
              dsimp only at x1
              have HQ3 := Lib.hid (hQ3.below hbW)
              have hR3 := (HR.out.sv hS3).below hbW
              obtain ⟨bR, yy, rfl, hy2, cR1⟩ := hR3.at_ hpl
              obtain rfl : yy = y := by rw [hy] at hy2; cases hy2; rfl
              have HR3 := Lib.hid hR3
              clear hQ3 hS3 hbW HQ HR hX hy hy2 hR3
              go_wp2_with fail
              rw [← hW]
              clear hW
              refine wp_region_held_drew (S := (fun w' => Below W.heap.size W w')) (by kernel_rfl) ((Below.refl _ _).drew) (fun hHeld => ?_)
              refine tkY 0 oQuRowLaw1 ?vv10_56_0 rfl (by kernel_rfl) (by kernel_rfl) (by kernel_rfl) (fun _ _ _ h => h) (by rfl) ?hy10_56_0 (by assumption) ?rest10_56_0
              case hy10_56_0 => (intro w hSw; unfold oQuRowLaw1; (try dsimp only at hSw); (try go_split_ands); go_simp; all_goals with_reducible rfl)
              try simp only [oQuRowLaw1, Act.put, sA, sB, sC]
              refine tkY 1 oQuRowLaw2 ?vv10_56_1 rfl (by kernel_rfl) (by kernel_rfl) (by kernel_rfl) (fun _ _ _ h => h) (by rfl) ?hy10_56_1 (by assumption) ?rest10_56_1
              case hy10_56_1 => (intro w hSw; unfold oQuRowLaw2; (try dsimp only at hSw); (try go_split_ands); go_simp; all_goals with_reducible rfl)
              try simp only [oQuRowLaw2, Act.put, sA, sB, sC]
              refine tkY 2 oQuRowLaw3 ?vv10_56_2 rfl (by kernel_rfl) (by kernel_rfl) (by kernel_rfl) (fun _ _ _ h => h) (by rfl) ?hy10_56_2 (by assumption) ?rest10_56_2
              case hy10_56_2 => (intro w hSw; unfold oQuRowLaw3; (try dsimp only at hSw); (try go_split_ands); go_simp; all_goals with_reducible rfl)
              try simp only [oQuRowLaw3, Act.put, sA, sB, sC]
              refine tkY 3 oQuRowLaw4 ?vv10_56_3 rfl (by kernel_rfl) (by kernel_rfl) (by kernel_rfl) (fun _ _ _ h => h) (by rfl) ?hy10_56_3 (by assumption) ?rest10_56_3
              case hy10_56_3 => (intro w hSw; unfold oQuRowLaw4; (try dsimp only at hSw); (try go_split_ands); go_simp; all_goals with_reducible rfl)
              try simp only [oQuRowLaw4, Act.put, sA, sB, sC]
              refine tkY 4 oQuRowLaw5 ?vv10_56_4 rfl (by kernel_rfl) (by kernel_rfl) (by kernel_rfl) (fun _ _ _ h => h) (by rfl) ?hy10_56_4 (by assumption) ?rest10_56_4
              case hy10_56_4 => (intro w hSw; unfold oQuRowLaw5; (try dsimp only at hSw); (try go_split_ands); go_simp; all_goals with_reducible rfl)
              try simp only [oQuRowLaw5, Act.put, sA, sB, sC]
              refine tkY 5 oQuRowLaw6 ?vv10_56_5 rfl (by kernel_rfl) (by kernel_rfl) (by kernel_rfl) (fun _ _ _ h => h) (by rfl) ?hy10_56_5 (by assumption) ?rest10_56_5
              case hy10_56_5 => (intro w hSw; unfold oQuRowLaw6; (try dsimp only at hSw); (try go_split_ands); go_simp; all_goals with_reducible rfl)
              try simp only [oQuRowLaw6, Act.put, sA, sB, sC]
              refine tkY 6 oQuRowLaw7 ?vv10_56_6 rfl (by kernel_rfl) (by kernel_rfl) (by kernel_rfl) (fun _ _ _ h => h) (by rfl) ?hy10_56_6 (by assumption) ?rest10_56_6
              case hy10_56_6 => (intro w hSw; unfold oQuRowLaw7; (try dsimp only at hSw); (try go_split_ands); go_simp; all_goals with_reducible rfl)
              try simp only [oQuRowLaw7, Act.put, sA, sB, sC]
              refine tkY 7 oQuRowLaw8 ?vv10_56_7 rfl (by kernel_rfl) (by kernel_rfl) (by kernel_rfl) (fun _ _ _ h => h) (by rfl) ?hy10_56_7 (by assumption) ?rest10_56_7
              case hy10_56_7 => (intro w hSw; unfold oQuRowLaw8; (try dsimp only at hSw); (try go_split_ands); go_simp; all_goals with_reducible rfl)
              try simp only [oQuRowLaw8, Act.put, sA, sB, sC]
              refine tkY 8 oQuRowLaw9 ?vv10_56_8 rfl (by kernel_rfl) (by kernel_rfl) (by kernel_rfl) (fun _ _ _ h => h) (by rfl) ?hy10_56_8 (by assumption) ?rest10_56_8
              case hy10_56_8 => (intro w hSw; unfold oQuRowLaw9; (try dsimp only at hSw); (try go_split_ands); go_simp; all_goals with_reducible rfl)
              try simp only [oQuRowLaw9, Act.put, sA, sB, sC]
              refine tkY 9 oQuRowLaw10 ?vv10_56_9 rfl (by kernel_rfl) (by kernel_rfl) (by kernel_rfl) (fun _ _ _ h => h) (by rfl) ?hy10_56_9 (by assumption) ?rest10_56_9
              case hy10_56_9 => (intro w hSw; unfold oQuRowLaw10; (try dsimp only at hSw); (try go_split_ands); go_simp; all_goals with_reducible rfl)
              try simp only [oQuRowLaw10, Act.put, sA, sB, sC]
              refine tkY 10 oQuRowLaw11 ?vv10_57_10 rfl (by kernel_rfl) (by kernel_rfl) (by kernel_rfl) (fun _ _ _ h => h) (by rfl) ?hy10_57_10 (by assumption) ?rest10_57_10
              case hy10_57_10 => (intro w hSw; unfold oQuRowLaw11; (try dsimp only at hSw); have q9 := (hSw.cell (World.block_lt_of_cell? _ _ x1)).trans x1; clear hSw; go_simp; all_goals with_reducible rfl)
              try simp only [oQuRowLaw11, Act.put, sA, sB, sC]
              refine tkY 11 oQuRowLaw12 ?vv10_58_11 rfl (by kernel_rfl) (by kernel_rfl) (by kernel_rfl) (fun _ _ _ h => h) (by rfl) ?hy10_58_11 (by assumption) ?rest10_58_11
              case hy10_58_11 => (intro w hSw; unfold oQuRowLaw12; (try dsimp only at hSw); (try go_split_ands); go_simp; all_goals with_reducible rfl)
              try simp only [oQuRowLaw12, Act.put, sA, sB, sC]
              refine tkY 12 oQuRowLaw13 ?vv10_58_12 rfl (by kernel_rfl) (by kernel_rfl) (by kernel_rfl) (fun _ _ _ h => h) (by rfl) ?hy10_58_12 (by assumption) ?rest10_58_12
              case hy10_58_12 => (intro w hSw; unfold oQuRowLaw13; (try dsimp only at hSw); (try go_split_ands); go_simp; all_goals with_reducible rfl)
              try simp only [oQuRowLaw13, Act.put, sA, sB, sC]
              refine tkY 13 oQuRowLaw14 ?vv10_58_13 rfl (by kernel_rfl) (by kernel_rfl) (by kernel_rfl) (fun _ _ _ h => h) (by rfl) ?hy10_58_13 (by assumption) ?rest10_58_13
              case hy10_58_13 => (intro w hSw; unfold oQuRowLaw14; (try dsimp only at hSw); (try go_split_ands); go_simp; all_goals with_reducible rfl)
              try simp only [oQuRowLaw14, Act.put, sA, sB, sC]
              refine tkY 14 oQuRowLaw15 ?vv10_59_14 rfl (by kernel_rfl) (by kernel_rfl) (by kernel_rfl) (fun _ _ _ h => h) (by rfl) ?hy10_59_14 (by assumption) ?rest10_59_14
              case hy10_59_14 => (intro w hSw; unfold oQuRowLaw15; (try dsimp only at hSw); have q9 := (hSw.cell (World.block_lt_of_cell? _ _ cR1)).trans cR1; clear hSw; go_simp; all_goals with_reducible rfl)
              try simp only [oQuRowLaw15, Act.put, sA, sB, sC]
              refine wpAnyH_ready (rs := [15]) (by kernel_rfl) (by simp) ?_
              refine AllReadyH.cons (o := oQuRowLaw16) rfl (fun K hK => ?_) AllReadyH.nil
              unfold oQuRowLaw16
              go_simp
              (go_at_call 23; refine (number_eq yy _ (by omega)).mono ?_; rintro e w7 ⟨rfl, hb6⟩)
              refine hK.out _ _ ?_ (fun hHeld => ?_)
              · (exact below_more hHeld hb6)
              clear hK K
              try simp only [oQuRowLaw16, Act.put, sA, sB, sC]
              refine tkY 16 oQuRowLaw17 ?vv10_60_16 rfl (by kernel_rfl) (by kernel_rfl) (by kernel_rfl) (fun _ _ _ h => h) (by rfl) ?hy10_60_16 (by assumption) ?rest10_60_16
              case hy10_60_16 => (intro w hSw; unfold oQuRowLaw17; (try dsimp only at hSw); (try go_split_ands); go_simp; all_goals with_reducible rfl)
              try simp only [oQuRowLaw17, Act.put, sA, sB, sC]
              refine tkY 17 oQuRowLaw18 ?vv10_60_17 rfl (by kernel_rfl) (by kernel_rfl) (by kernel_rfl) (fun _ _ _ h => h) (by rfl) ?hy10_60_17 (by assumption) ?rest10_60_17
              case hy10_60_17 => (intro w hSw; unfold oQuRowLaw18; (try dsimp only at hSw); (try go_split_ands); go_simp; all_goals with_reducible rfl)
              try simp only [oQuRowLaw18, Act.put, sA, sB, sC]
              refine tkY 18 oQuRowLaw19 ?vv10_60_18 rfl (by kernel_rfl) (by kernel_rfl) (by kernel_rfl) (fun _ _ _ h => h) (by rfl) ?hy10_60_18 (by assumption) ?rest10_60_18
              case hy10_60_18 => (intro w hSw; unfold oQuRowLaw19; (try dsimp only at hSw); (try go_split_ands); go_simp; all_goals with_reducible rfl)
              try simp only [oQuRowLaw19, Act.put, sA, sB, sC]
              refine wpAnyH_done (by kernel_rfl) ?_ _
              have HQ9 := Lib.hid (HQ3.out.below hHeld)
              have HR9 := Lib.hid (HR3.out.below hHeld)
              clear hHeld HQ3 HR3 x1 cR1
              go_wp2_with fail
              go_roundw
              case rel => exact ⟨k + 1, p + 1, cR, R, L, F3, _, rfl, by go_num, by go_num, by omega, by omega, HQ9.out, HR9.out, HN2.out⟩
              case measure => simp [intOf]; omega
        · have hltI : ¬ (k : Int) < (n : Int) := by omega
          have hNl := hN.out.len
          have hdI : (R.length : Int) - (p : Int) = (L.length : Int) := by omega
          have hlM := HQ.out.q.le
          have hdw := IntWalk.i64_in (L.length : Int) (by omega)
          go_wp2_with fail
          refine (xAll HQ.out).mono ?_
          rintro e w3 hA
          obtain ⟨A3, c3, rfl, hM3, hQ3, hb3⟩ := QR.form HQ.out hA
          have HM3 := Lib.hid hM3.1
          have HB3 := Lib.hid hQ3.b
          have HR3 := Lib.hid (HR.out.below hb3)
          clear hA hM3 hQ3 hb3 HQ HR
          go_wp2_with fail
          go_loopw [14] (fun jv wr => ∃ (j : Nat), jv = .int .i64 j ∧ j ≤ L.length ∧ Below w3.heap.size w3 wr) (fun jv _ => L.length - (intOf jv).toNat)
          case atStart => exact ⟨0, rfl, by omega, Below.refl _ _⟩
          case round =>
            obtain ⟨j, rfl, hj, hb⟩ := hrel
            by_cases hjl : j < L.length
            · have hjlI : (j : Int) < (L.length : Int) := by omega
              obtain ⟨s, hs⟩ : ∃ s, p + j = s := ⟨_, rfl⟩
              have hsI : (p : Int) + (j : Int) = (s : Int) := by omega
              have hsw := IntWalk.i64_in (s : Int) (by omega)
              have hsR : s < R.length := by omega
              have hsRI : (s : Int) < (R.length : Int) := by omega
              obtain ⟨b3, o3, m, rfl, hm, d0, d1, d2, d3⟩ := HM3.out.at_ hjl
              obtain ⟨x, hx, hpay, hxl⟩ := hN.out.at_ hm
              rw [hs] at hx
              obtain ⟨bR, y, rfl, hy, cR1⟩ := HR3.out.at_ hsR
              obtain rfl : y = x := by rw [hx] at hy; cases hy; rfl
              obtain ⟨m1, m2, m3, m4⟩ := m
              dsimp only at hpay d1
              subst hpay
              have HB := Lib.hid hb
              clear hs hx hy hm hb d0 d2 d3 hdI hdw
              go_wp2_with fail
              refine wp_region_held_drew (S := (fun w' => Below w3.heap.size w3 w')) (by kernel_rfl) (HB.out.drew) (fun hHeld => ?_)
              refine tkY 0 oQuRowLaw20 ?vv11_61_0 rfl (by kernel_rfl) (by kernel_rfl) (by kernel_rfl) (fun _ _ _ h => h) (by rfl) ?hy11_61_0 (by assumption) ?rest11_61_0
              case hy11_61_0 => (intro w hSw; unfold oQuRowLaw20; (try dsimp only at hSw); (try go_split_ands); go_simp; all_goals with_reducible rfl)
              try simp only [oQuRowLaw20, Act.put, sA, sB, sC]
              refine tkY 1 oQuRowLaw21 ?vv11_61_1 rfl (by kernel_rfl) (by kernel_rfl) (by kernel_rfl) (fun _ _ _ h => h) (by rfl) ?hy11_61_1 (by assumption) ?rest11_61_1
              case hy11_61_1 => (intro w hSw; unfold oQuRowLaw21; (try dsimp only at hSw); (try go_split_ands); go_simp; all_goals with_reducible rfl)
              try simp only [oQuRowLaw21, Act.put, sA, sB, sC]
              refine tkY 2 oQuRowLaw22 ?vv11_61_2 rfl (by kernel_rfl) (by kernel_rfl) (by kernel_rfl) (fun _ _ _ h => h) (by rfl) ?hy11_61_2 (by assumption) ?rest11_61_2
              case hy11_61_2 => (intro w hSw; unfold oQuRowLaw22; (try dsimp only at hSw); (try go_split_ands); go_simp; all_goals with_reducible rfl)
              try simp only [oQuRowLaw22, Act.put, sA, sB, sC]
              refine tkY 3 oQuRowLaw23 ?vv11_61_3 rfl (by kernel_rfl) (by kernel_rfl) (by kernel_rfl) (fun _ _ _ h => h) (by rfl) ?hy11_61_3 (by assumption) ?rest11_61_3
              case hy11_61_3 => (intro w hSw; unfold oQuRowLaw23; (try dsimp only at hSw); (try go_split_ands); go_simp; all_goals with_reducible rfl)
              try simp only [oQuRowLaw23, Act.put, sA, sB, sC]
              refine tkY 4 oQuRowLaw24 ?vv11_62_4 rfl (by kernel_rfl) (by kernel_rfl) (by kernel_rfl) (fun _ _ _ h => h) (by rfl) ?hy11_62_4 (by assumption) ?rest11_62_4
              case hy11_62_4 => (intro w hSw; unfold oQuRowLaw24; (try dsimp only at hSw); have q9 := (hSw.cell (World.block_lt_of_cell? _ _ d1)).trans d1; clear hSw; go_simp; all_goals with_reducible rfl)
              try simp only [oQuRowLaw24, Act.put, sA, sB, sC]
              refine tkY 5 oQuRowLaw25 ?vv11_63_5 rfl (by kernel_rfl) (by kernel_rfl) (by kernel_rfl) (fun _ _ _ h => h) (by rfl) ?hy11_63_5 (by assumption) ?rest11_63_5
              case hy11_63_5 => (intro w hSw; unfold oQuRowLaw25; (try dsimp only at hSw); (try go_split_ands); go_simp; all_goals with_reducible rfl)
              try simp only [oQuRowLaw25, Act.put, sA, sB, sC]
              refine tkY 6 oQuRowLaw26 ?vv11_63_6 rfl (by kernel_rfl) (by kernel_rfl) (by kernel_rfl) (fun _ _ _ h => h) (by rfl) ?hy11_63_6 (by assumption) ?rest11_63_6
              case hy11_63_6 => (intro w hSw; unfold oQuRowLaw26; (try dsimp only at hSw); (try go_split_ands); go_simp; all_goals with_reducible rfl)
              try simp only [oQuRowLaw26, Act.put, sA, sB, sC]
              refine tkY 7 oQuRowLaw27 ?vv11_63_7 rfl (by kernel_rfl) (by kernel_rfl) (by kernel_rfl) (fun _ _ _ h => h) (by rfl) ?hy11_63_7 (by assumption) ?rest11_63_7
              case hy11_63_7 => (intro w hSw; unfold oQuRowLaw27; (try dsimp only at hSw); (try go_split_ands); go_simp; all_goals with_reducible rfl)
              try simp only [oQuRowLaw27, Act.put, sA, sB, sC]
              refine tkY 8 oQuRowLaw28 ?vv11_63_8 rfl (by kernel_rfl) (by kernel_rfl) (by kernel_rfl) (fun _ _ _ h => h) (by rfl) ?hy11_63_8 (by assumption) ?rest11_63_8
              case hy11_63_8 => (intro w hSw; unfold oQuRowLaw28; (try dsimp only at hSw); (try go_split_ands); go_simp; all_goals with_reducible rfl)
              try simp only [oQuRowLaw28, Act.put, sA, sB, sC]
              refine tkY 9 oQuRowLaw29 ?vv11_63_9 rfl (by kernel_rfl) (by kernel_rfl) (by kernel_rfl) (fun _ _ _ h => h) (by rfl) ?hy11_63_9 (by assumption) ?rest11_63_9
              case hy11_63_9 => (intro w hSw; unfold oQuRowLaw29; (try dsimp only at hSw); (try go_split_ands); go_simp; all_goals with_reducible rfl)
              try simp only [oQuRowLaw29, Act.put, sA, sB, sC]
              refine tkY 10 oQuRowLaw30 ?vv11_64_10 rfl (by kernel_rfl) (by kernel_rfl) (by kernel_rfl) (fun _ _ _ h => h) (by rfl) ?hy11_64_10 (by assumption) ?rest11_64_10
              case hy11_64_10 => (intro w hSw; unfold oQuRowLaw30; (try dsimp only at hSw); have q9 := (hSw.cell (World.block_lt_of_cell? _ _ cR1)).trans cR1; clear hSw; go_simp; all_goals with_reducible rfl)
              try simp only [oQuRowLaw30, Act.put, sA, sB, sC]
              refine wpAnyH_ready (rs := [11]) (by kernel_rfl) (by simp) ?_
              refine AllReadyH.cons (o := oQuRowLaw31) rfl (fun K hK => ?_) AllReadyH.nil
              unfold oQuRowLaw31
              go_simp
              (go_at_call 23; refine (number_eq y _ (by omega)).mono ?_; rintro e w7 ⟨rfl, hb6⟩)
              refine hK.out _ _ ?_ (fun hHeld => ?_)
              · (exact below_more hHeld hb6)
              clear hK K
              try simp only [oQuRowLaw31, Act.put, sA, sB, sC]
              refine tkY 12 oQuRowLaw32 ?vv11_65_12 rfl (by kernel_rfl) (by kernel_rfl) (by kernel_rfl) (fun _ _ _ h => h) (by rfl) ?hy11_65_12 (by assumption) ?rest11_65_12
              case hy11_65_12 => (intro w hSw; unfold oQuRowLaw32; (try dsimp only at hSw); (try go_split_ands); go_simp; all_goals with_reducible rfl)
              try simp only [oQuRowLaw32, Act.put, sA, sB, sC]
              refine wpAnyH_done (by kernel_rfl) ?_ _
              have HH := Lib.hid hHeld
              clear hHeld d1 cR1
              go_wp2_with fail
              go_roundw
              case rel => exact ⟨j + 1, by go_num, by omega, HH.out⟩
              case measure => simp [intOf]; omega
            · have hjlI : ¬ (j : Int) < (L.length : Int) := by omega
              go_wp2_with fail
              refine (awake12_any _).mono ?_
              rintro e w4 ⟨rfl, hb4⟩
              go_wp2_with fail
              go_ret
              exact ⟨rfl, below_more (below_more HB3.out hb) hb4⟩
set_option maxRecDepth 100000 in
theorem lifted (os : Os) (started : os.Started) (H : Type) (enc : TypeId × Value → H) :
    ReturnsInHanded {} Try.checked os 5 .any (Rows.queueRowSpec.pre6 enc Try.prog Try.f5 Rows.queueRowRow.domain false) (Rows.queueRowSpec.post enc Try.prog Try.f5 false true false false) := by
  refine returnsInHanded_of_change_sized (C := Try.checked) own_none started (by kernel_rfl) Try.func5
    (ChangeSpec.witness6 (enc := enc) (C := Try.checked) false ⟨#[], #[.int .i64 0, .slice none 0 0], []⟩ 8 (by kernel_rfl) (by kernel_rfl) (by kernel_rfl) (by kernel_rfl)) ?_
  intro W base args ds gs before hval0 hW hcnd hwt _
  have hval : ∀ (j : Nat) t v, Try.f5.params[j]? = some t → args[j]? = some v → Value.okWide Try.prog W .any base t v := hval0
  have hWk := hW
  obtain ⟨p, q, hA0, hV, hbef, _, _⟩ := hWk
  have hA : DataW.TrodAll enc Try.prog W 0 (fun _ => true) true Try.f5.params.toList args.toList ds p := hA0
  obtain ⟨rfl, rfl⟩ := trodVars_none hV
  rw [Try.params5] at hA hval
  obtain ⟨v0, vs0, d0, ds0, p0, q0, hargs, rfl, hp0, h0, r0⟩ := trodAll_cons hA
  obtain ⟨v1, vs1, d1, ds1, p1, q1, rfl, rfl, hp1, h1, r1⟩ := trodAll_cons r0
  obtain ⟨rfl, rfl, hpn⟩ := trodAll_nil r1
  obtain rfl : args = #[v0, v1] := by cases args; simp_all
  obtain ⟨a0, rfl, rfl, hx0, w0⟩ := open_int Try.underlying3 (hval 0 3 v0 rfl rfl) h0
  obtain ⟨A1, n1, c1, l1, rfl, hs1, _, hn1, hi1⟩ := open_Aqs (hval 1 38 v1 rfl rfl) h1 (fun n hn => of_decide_eq_true (List.all_eq_true.1 hwt n (DataW.weights_mem_each (j := 1) (t := 38) (by rfl) (by rfl) n hn)))
  refine (walk W a0 w0 A1 n1 c1 l1 hs1 hn1 hi1).mono fun e W' ⟨he, hg⟩ => ?_
  subst he
  exact ⟨_, rfl, law_post laid_out (by kernel_rfl) rfl (by kernel_rfl) Try.underlying4 hW rfl hg⟩

theorem over : Rows.queueRowRow.holds Try.pinned (OpenSpec.ofChange Rows.queueRowSpec) :=
  OpenClaim.holds_of_wide 5 Try.f5 rfl rfl rfl rfl rfl rfl rfl ⟨rfl, rfl, rfl, rfl, rfl⟩ rfl rfl rfl rfl rfl (by kernel_rfl) Try.func5 (by kernel_rfl)
    (of_decide_eq_true (by kernel_rfl)) (by unfold Func.isWrapper; first | (rw [if_pos (by decide +kernel)]; kernel_rfl) | (rw [if_neg (by decide +kernel)]; exact ⟨rfl, rfl⟩))
    (fun os started H enc _ => lifted os started H enc)

/-- THE STATEMENT. -/
theorem proved : Rows.QueueRowSaid :=
  over
end Go.Proofs.Ytihgikhnkkmhhaa.lawQueueRow
