/-
  QueuePlays: whatever is pushed, popped, cleared, of any limit: each call answers what the document's queue answers, and the queue has what it has; what is told may be written over. For every input; no condition.
-/
import Derived.Test.YtihgikhnkkmhhaaQuRef
import Derived.StillTailTactics
import Derived.Deep.Cut
import Derived.Deep.DeepCutAuto
import Derived.Deep.CutBlock
set_option linter.unusedSimpArgs false
set_option linter.unusedVariables false
namespace Go.Proofs.Ytihgikhnkkmhhaa.lawQueuePlays
section
open Go.RowKit
def oQuPlaysLaw1 : Oper := ({ dst := some 73, op := Go.Op.move (Go.Operand.tmp 5), type := 23, pos := "law.go:94", after := #[], guard := none } : Oper)
def oQuPlaysLaw2 : Oper := ({ dst := some 74, op := Go.Op.move (Go.Operand.tmp 1), type := 38, pos := "law.go:94", after := #[], guard := none } : Oper)
def oQuPlaysLaw3 : Oper := ({ dst := some 75, op := Go.Op.move (Go.Operand.tmp 7), type := 3, pos := "law.go:94", after := #[], guard := none } : Oper)
def oQuPlaysLaw4 : Oper := ({ dst := some 76, op := Go.Op.indexAddr 38 (Go.Operand.tmp 74) (Go.Operand.tmp 75), type := 0, pos := "law.go:94", after := #[{ on := 1, ground := Go.Ground.data }, { on := 2, ground := Go.Ground.data }], guard := none } : Oper)
def oQuPlaysLaw5 : Oper := ({ dst := some 77, op := Go.Op.fieldAddr 43 (Go.Operand.tmp 76) 1, type := 0, pos := "law.go:94", after := #[{ on := 3, ground := Go.Ground.data }], guard := none } : Oper)
def oQuPlaysLaw6 : Oper := ({ dst := some 78, op := Go.Op.load 28 (Go.Operand.tmp 77), type := 28, pos := "law.go:94", after := #[{ on := 4, ground := Go.Ground.data }], guard := none } : Oper)
def oQuPlaysLaw7 : Oper := ({ dst := some 80, op := Go.Op.move (Go.Operand.tmp 6), type := 40, pos := "law.go:94", after := #[], guard := none } : Oper)
def oQuPlaysLaw8 : Oper := ({ dst := some 81, op := Go.Op.move (Go.Operand.tmp 1), type := 38, pos := "law.go:94", after := #[], guard := none } : Oper)
def oQuPlaysLaw9 : Oper := ({ dst := some 82, op := Go.Op.move (Go.Operand.tmp 7), type := 3, pos := "law.go:94", after := #[], guard := none } : Oper)
def oQuPlaysLaw10 : Oper := ({ dst := some 83, op := Go.Op.indexAddr 38 (Go.Operand.tmp 81) (Go.Operand.tmp 82), type := 0, pos := "law.go:94", after := #[{ on := 8, ground := Go.Ground.data }, { on := 9, ground := Go.Ground.data }], guard := none } : Oper)
def oQuPlaysLaw11 : Oper := ({ dst := some 84, op := Go.Op.fieldAddr 43 (Go.Operand.tmp 83) 1, type := 0, pos := "law.go:94", after := #[{ on := 10, ground := Go.Ground.data }], guard := none } : Oper)
def oQuPlaysLaw12 : Oper := ({ dst := some 85, op := Go.Op.load 28 (Go.Operand.tmp 84), type := 28, pos := "law.go:94", after := #[{ on := 11, ground := Go.Ground.data }], guard := none } : Oper)
def oQuPlaysLaw13 : Oper := ({ dst := some 79, op := Go.Op.call { callee := Go.Callee.value (Go.Operand.func 11), args := #[Go.Operand.tmp 73, Go.Operand.tmp 78], argTypes := #[23, 28] }, type := 4, pos := "law.go:94", after := #[{ on := 0, ground := Go.Ground.data }, { on := 5, ground := Go.Ground.data }], guard := none } : Oper)
def oQuPlaysLaw14 : Oper := ({ dst := some 86, op := Go.Op.call { callee := Go.Callee.value (Go.Operand.func 20), args := #[Go.Operand.tmp 80, Go.Operand.tmp 85], argTypes := #[40, 28] }, type := 4, pos := "law.go:94", after := #[{ on := 7, ground := Go.Ground.data }, { on := 12, ground := Go.Ground.data }, { on := 6, ground := Go.Ground.chain }], guard := none } : Oper)
def oQuPlaysLaw15 : Oper := ({ dst := some 87, op := Go.Op.binOp Go.BinOp.neq 4 (Go.Operand.tmp 79) (Go.Operand.tmp 86) 4, type := 4, pos := "law.go:94", after := #[{ on := 6, ground := Go.Ground.data }, { on := 13, ground := Go.Ground.data }], guard := none } : Oper)
def oQuPlaysLaw16 : Oper := ({ dst := some 142, op := Go.Op.move (Go.Operand.tmp 5), type := 23, pos := "law.go:112", after := #[], guard := none } : Oper)
def oQuPlaysLaw17 : Oper := ({ dst := some 144, op := Go.Op.move (Go.Operand.tmp 6), type := 40, pos := "law.go:112", after := #[], guard := none } : Oper)
def oQuPlaysLaw18 : Oper := ({ dst := some 145, op := Go.Op.nilCheck (Go.Operand.tmp 144), type := 0, pos := "law.go:112", after := #[{ on := 2, ground := Go.Ground.data }], guard := none } : Oper)
def oQuPlaysLaw19 : Oper := ({ dst := some 146, op := Go.Op.fieldAddr 45 (Go.Operand.tmp 145) 0, type := 0, pos := "law.go:112", after := #[{ on := 3, ground := Go.Ground.data }], guard := none } : Oper)
def oQuPlaysLaw20 : Oper := ({ dst := some 147, op := Go.Op.load 30 (Go.Operand.tmp 146), type := 30, pos := "law.go:112", after := #[{ on := 4, ground := Go.Ground.data }], guard := none } : Oper)
def oQuPlaysLaw21 : Oper := ({ dst := some 148, op := Go.Op.call { callee := Go.Callee.builtin Go.Builtin.len, args := #[Go.Operand.tmp 147], argTypes := #[30] }, type := 3, pos := "law.go:112", after := #[{ on := 5, ground := Go.Ground.data }], guard := none } : Oper)
def oQuPlaysLaw22 : Oper := ({ dst := some 143, op := Go.Op.call { callee := Go.Callee.value (Go.Operand.func 10), args := #[Go.Operand.tmp 142], argTypes := #[23] }, type := 3, pos := "law.go:112", after := #[{ on := 0, ground := Go.Ground.data }], guard := none } : Oper)
def oQuPlaysLaw23 : Oper := ({ dst := some 149, op := Go.Op.binOp Go.BinOp.neq 3 (Go.Operand.tmp 143) (Go.Operand.tmp 148) 3, type := 4, pos := "law.go:112", after := #[{ on := 1, ground := Go.Ground.data }, { on := 6, ground := Go.Ground.data }], guard := none } : Oper)
def oQuPlaysLaw24 : Oper := ({ dst := some 150, op := Go.Op.move (Go.Operand.tmp 149), type := 4, pos := "law.go:112", after := #[{ on := 7, ground := Go.Ground.data }, { on := 1, ground := Go.Ground.chain }], guard := none } : Oper)
def oQuPlaysLaw25 : Oper := ({ dst := some 151, op := Go.Op.move (Go.Operand.tmp 5), type := 23, pos := "law.go:112", after := #[{ on := 8, ground := Go.Ground.guard }], guard := some (8, false) } : Oper)
def oQuPlaysLaw26 : Oper := ({ dst := some 153, op := Go.Op.move (Go.Operand.tmp 6), type := 40, pos := "law.go:112", after := #[{ on := 8, ground := Go.Ground.guard }], guard := some (8, false) } : Oper)
def oQuPlaysLaw27 : Oper := ({ dst := some 154, op := Go.Op.nilCheck (Go.Operand.tmp 153), type := 0, pos := "law.go:112", after := #[{ on := 11, ground := Go.Ground.data }, { on := 8, ground := Go.Ground.guard }], guard := some (8, false) } : Oper)
def oQuPlaysLaw28 : Oper := ({ dst := some 155, op := Go.Op.fieldAddr 45 (Go.Operand.tmp 154) 1, type := 0, pos := "law.go:112", after := #[{ on := 12, ground := Go.Ground.data }, { on := 8, ground := Go.Ground.guard }], guard := some (8, false) } : Oper)
def oQuPlaysLaw29 : Oper := ({ dst := some 156, op := Go.Op.load 3 (Go.Operand.tmp 155), type := 3, pos := "law.go:112", after := #[{ on := 13, ground := Go.Ground.data }, { on := 8, ground := Go.Ground.guard }], guard := some (8, false) } : Oper)
def oQuPlaysLaw30 : Oper := ({ dst := some 157, op := Go.Op.move (Go.Operand.tmp 6), type := 40, pos := "law.go:112", after := #[{ on := 8, ground := Go.Ground.guard }], guard := some (8, false) } : Oper)
def oQuPlaysLaw31 : Oper := ({ dst := some 158, op := Go.Op.nilCheck (Go.Operand.tmp 157), type := 0, pos := "law.go:112", after := #[{ on := 15, ground := Go.Ground.data }, { on := 8, ground := Go.Ground.guard }], guard := some (8, false) } : Oper)
def oQuPlaysLaw32 : Oper := ({ dst := some 159, op := Go.Op.fieldAddr 45 (Go.Operand.tmp 158) 0, type := 0, pos := "law.go:112", after := #[{ on := 16, ground := Go.Ground.data }, { on := 8, ground := Go.Ground.guard }], guard := some (8, false) } : Oper)
def oQuPlaysLaw33 : Oper := ({ dst := some 160, op := Go.Op.load 30 (Go.Operand.tmp 159), type := 30, pos := "law.go:112", after := #[{ on := 17, ground := Go.Ground.data }, { on := 8, ground := Go.Ground.guard }], guard := some (8, false) } : Oper)
def oQuPlaysLaw34 : Oper := ({ dst := some 161, op := Go.Op.call { callee := Go.Callee.builtin Go.Builtin.len, args := #[Go.Operand.tmp 160], argTypes := #[30] }, type := 3, pos := "law.go:112", after := #[{ on := 18, ground := Go.Ground.data }, { on := 8, ground := Go.Ground.guard }], guard := some (8, false) } : Oper)
def oQuPlaysLaw35 : Oper := ({ dst := some 162, op := Go.Op.binOp Go.BinOp.sub 3 (Go.Operand.tmp 156) (Go.Operand.tmp 161) 3, type := 3, pos := "law.go:112", after := #[{ on := 14, ground := Go.Ground.data }, { on := 19, ground := Go.Ground.data }, { on := 8, ground := Go.Ground.guard }], guard := some (8, false) } : Oper)
def oQuPlaysLaw36 : Oper := ({ dst := some 152, op := Go.Op.call { callee := Go.Callee.value (Go.Operand.func 9), args := #[Go.Operand.tmp 151], argTypes := #[23] }, type := 3, pos := "law.go:112", after := #[{ on := 9, ground := Go.Ground.data }, { on := 8, ground := Go.Ground.chain }, { on := 8, ground := Go.Ground.guard }], guard := some (8, false) } : Oper)
def oQuPlaysLaw37 : Oper := ({ dst := some 163, op := Go.Op.binOp Go.BinOp.neq 3 (Go.Operand.tmp 152) (Go.Operand.tmp 162) 3, type := 4, pos := "law.go:112", after := #[{ on := 10, ground := Go.Ground.data }, { on := 20, ground := Go.Ground.data }, { on := 8, ground := Go.Ground.guard }], guard := some (8, false) } : Oper)
def oQuPlaysLaw38 : Oper := ({ dst := some 164, op := Go.Op.pick (Go.Operand.tmp 150) (Go.Operand.const (Go.Value.bool true)) (Go.Operand.tmp 163), type := 4, pos := "law.go:112", after := #[{ on := 8, ground := Go.Ground.data }, { on := 21, ground := Go.Ground.data }], guard := none } : Oper)
end
open Go.RowKit Go.ChangeShapes Go.WideShapes Go.ChangeAt

/-- Both queues of the call's own, apart. -/
structure QD (w wr : World) (t g : Nat) (F G : Nat → Prop) (M : Nat) (Lq Ld : List Ms) : Prop where
  q : QX w wr t F M Lq
  d : DQ wr g G M Ld
  gw : ∀ b, G b → w.heap.size ≤ b
  fg : ∀ x, F x → ¬ G x
section
variable {w wr w' : World} {M t g : Nat} {F G : Nat → Prop} {L L' Lq Ld : List Ms} {v : Value} {e : Ending}
theorem QD.below (h : QD w wr t g F G M Lq Ld) (hb : Below wr.heap.size wr w') : QD w w' t g F G M Lq Ld := ⟨h.q.below hb, h.d.below hb, h.gw, h.fg⟩
theorem QD.inQ (h : QD w wr t g F G M Lq Ld) (k : QS w wr t F M L' v e w') : ∃ F', e = .returned v ∧ QD w w' t g F' G M L' Ld := by
  obtain ⟨F', he, hq, hs⟩ := k
  exact ⟨F', he, hq, h.d.keep (fun b hG => hs.kept b (h.d.lt b hG) (fun hF => h.fg b hF hG)), h.gw, fun x hF hG => hs.out x (h.d.lt x hG) (fun hF2 => h.fg x hF2 hG) hF⟩
theorem QD.inD (h : QD w wr t g F G M Lq Ld) (k : DD wr g G M L' v e w') : ∃ G', e = .returned v ∧ QD w w' t g F G' M Lq L' := by
  obtain ⟨G', he, hd, hO, hG⟩ := k
  have hb : Below w.heap.size w w' := h.q.b.trans (hO.below (B := w.heap.size) (fun b _ hb => h.gw b hb) h.q.b.size)
  refine ⟨G', he, ⟨h.q.q.outs hO h.fg, hb, h.q.f⟩, hd, fun b hb2 => ?_, fun x hF hG2 => ?_⟩
  · rcases hG b hb2 with h2 | h2
    · exact h.gw b h2
    · have := h.q.b.size; omega
  · rcases hG x hG2 with h2 | h2
    · exact h.fg x hF h2
    · have := h.q.q.lt x hF; omega
theorem QD.outs {P : Nat → Prop} (h : QD w wr t g F G M Lq Ld) (hO : Outs wr w' P) (h1 : ∀ x, F x → ¬ P x) (h2 : ∀ x, G x → ¬ P x) (h3 : ∀ x, P x → w.heap.size ≤ x) : QD w w' t g F G M Lq Ld :=
  ⟨⟨h.q.q.outs hO h1, h.q.b.trans (hO.below (B := w.heap.size) (fun b _ hb => h3 b hb) h.q.b.size), h.q.f⟩, h.d.keep (fun b hG => hO.block b (h.d.lt b hG) (h2 b hG)), h.gw, h.fg⟩
theorem QD.nilD (h : QD w wr t g F G M Lq Ld) : QD w (wr.setCell ⟨g, 0, none⟩ (.slice none 0 0)) t g F (fun x => x = g) M Lq [] := by
  have hO : Outs wr (wr.setCell ⟨g, 0, none⟩ (.slice none 0 0)) (fun x => x = g) := (Outs.refl wr (fun x => x = g)).setCell g 0 rfl _
  have hgw := h.gw g h.d.root
  obtain ⟨v0, k1, k2, k3, k4, kG⟩ := h.d
  refine ⟨⟨h.q.q.outs hO (fun x hF e => h.fg x hF (e ▸ h.d.root)), h.q.b.trans (hO.below (B := w.heap.size) (fun b _ hb => by have : b = g := hb; omega) h.q.b.size), h.q.f⟩, ⟨.slice none 0 0, heap_setCell_same wr g 0 _ _ _ k1, World.ownsRow_nil _ _ _ _, by simp [Value.ownBlock], ⟨Nat.zero_le _, k4.2⟩, fun x => by simp [Value.ownBlock]⟩, fun b hb => by have : b = g := hb; omega, fun x hF e => h.fg x hF (e ▸ h.d.root)⟩
theorem pk_form (L : List Ms) : ∃ (m : Ms) (ok : Bool), pkV L = .tuple #[.agg #[.string ⟨m.1.toArray⟩, .string ⟨m.2.1.toArray⟩, .int .u8 m.2.2.1, .bool m.2.2.2], .bool ok] := by
  cases L with
  | nil => exact ⟨nilMs, false, rfl⟩
  | cons m L => exact ⟨m, true, rfl⟩
end
set_option maxHeartbeats 16000000 in
set_option maxRecDepth 100000 in
theorem walk (w : World) (most : Int) (_wm : (Lit.int .i64 most).wf = true) (A : Option Addr) (n c : Nat) (l : List Aq) (hs : Aqs w A n l) (hn : n ≤ 9223372036854775807) (hi : Hid (∀ x ∈ l, AqIn x)) :
    Calls Try.prog 4 #[.int .i64 most, .slice A n c] w fun e w' => e = .returned (.bool true) ∧ Below w.heap.size w w' := by
  have HS := Lib.hid hs
  have HL := Lib.hid hs.len
  have HG := Lib.hid (great12_any A n c l w hs hn hi)
  clear hs
  go_enter Try.func4, Try.ntmps4
  go_wp2_with fail
  refine HG.out.mono ?_
  rintro e w1 ⟨gb, rfl, hok, hb⟩
  have HB := Lib.hid hb
  clear hb HG
  cases gb with
  | true =>
    go_wp2_with fail
    refine (awake12_any _).mono ?_
    rintro e w2 ⟨rfl, hb⟩
    go_wp2_with fail
    go_ret
    exact ⟨rfl, below_more HB.out hb⟩
  | false =>
    have HOK := Lib.hid (hok rfl)
    clear hok
    by_cases hm : most < 1 ∨ 1024 < most
    · go_wp2_with fail
      refine (qNewN _ most hm).mono ?_
      rintro e w2 ⟨rfl, rfl⟩
      go_wp2_with fail
      refine (dNewN _ most hm).mono ?_
      rintro e w2 ⟨rfl, rfl⟩
      go_wp2_with fail
      refine (awake12_any _).mono ?_
      rintro e w2 ⟨rfl, hb⟩
      go_wp2_with fail
      go_ret
      exact ⟨rfl, below_more HB.out hb⟩
    · obtain ⟨M, rfl⟩ : ∃ M : Nat, most = (M : Int) := ⟨most.toNat, by omega⟩
      have hM1 : 1 ≤ M := by omega
      have hM2 : M ≤ 1024 := by omega
      have hn2 : n ≤ 2500 := by have := HOK.out.1; rw [HL.out] at this; exact this
      clear hm
      go_wp2_with fail
      refine (xNew HB.out M hM1 hM2).mono ?_
      rintro e w2 ⟨t, F, rfl, hQ⟩
      go_wp2_with fail
      refine (dNew _ M hM1 hM2).mono ?_
      rintro e w3 ⟨g, G, rfl, hD, hb3, hG3⟩
      have hQD : QD w w3 t g F G M [] [] := ⟨hQ.below hb3, hD, fun b h => Nat.le_trans hQ.b.size (hG3 b h), fun x h1 h2 => by have := hQ.q.lt x h1; have := hG3 x h2; omega⟩
      have HQD := Lib.hid hQD
      clear hQ hD hb3 hG3 hQD HB
      go_wp2_with fail
      go_loopw [7] (fun i wr => ∃ (k : Nat) (F G : Nat → Prop) (L : List Ms), i = .int .i64 k ∧ k ≤ n ∧ QD w wr t g F G M L L) (fun i _ => n - (intOf i).toNat)
      case atStart => exact ⟨0, F, G, [], rfl, by omega, HQD.out⟩
      case round =>
        clear HQD
        obtain ⟨k, F, G, L, rfl, hk, hQD⟩ := hrel
        have HQD := Lib.hid hQD
        clear hQD
        by_cases hlt : k < n
        · have hltI : (k : Int) < (n : Int) := by omega
          obtain ⟨b1, o1, x, rfl, hx, c0, c1, c2, c3, c4⟩ := (HS.out.below HQD.out.q.b).at_ hlt
          have hsz := HOK.out.2 x (List.mem_of_getElem? hx)
          obtain ⟨hk0, hk255, _⟩ := hi.out x (List.mem_of_getElem? hx)
          have HX : Hid (∀ W, Below w.heap.size w W → AqAt W b1 (o1 + k * 5) x) := fun W hW => by
            obtain ⟨b2, o2, y, e, hy, hc⟩ := (HS.out.below hW).at_ hlt
            cases e
            obtain rfl : y = x := by rw [hx] at hy; cases hy; rfl
            exact hc
          obtain ⟨xk, xf, xc, xq, xb⟩ := x
          dsimp only at hsz hk0 hk255 c0 c1 c2 c3 c4
          obtain ⟨q, hq⟩ : ∃ q : Int, xk % 8 = q := ⟨_, rfl⟩
          have hqm : Int.tmod xk 8 = q := by rw [Int.tmod_eq_emod_of_nonneg (by omega)]; exact hq
          have hq0 : 0 ≤ q := by omega
          have hq8 : q < 8 := by omega
          obtain ⟨r, hr⟩ : ∃ r, k % 16 = r := ⟨_, rfl⟩
          have hr1 : (k : Int) % 16 = (r : Int) := by omega
          have hr2 : Int.tmod (k : Int) 16 = (r : Int) := by rw [Int.tmod_eq_emod_of_nonneg (by omega)]; exact hr1
          obtain ⟨nm, hnm⟩ : ∃ nm, n - 1 = nm := ⟨_, rfl⟩
          have hnmI : (n : Int) - 1 = (nm : Int) := by omega
          have hnmw := IntWalk.i64_in (nm : Int) (by omega)
          have hxf : xf.length ≤ 1000000 := by omega
          have hxc : xc.length ≤ 1000000 := by omega
          clear hx hq hr hnm
          go_upto_block 2 with fail
          go_cut [8] (fun s8 wx => ∃ (F' G' : Nat → Prop) (L' : List Ms), QD w wx t g F' G' M L' L')
          case first =>
            by_cases hq4 : q < 4
            · obtain ⟨rb, hrb⟩ : ∃ rb, decide (L.length < M) = rb := ⟨_, rfl⟩
              obtain ⟨L2, hL2⟩ : ∃ L2, (if L.length < M then L ++ [(xf, xc, xq, xb)] else L) = L2 := ⟨_, rfl⟩
              have HRb := Lib.hid hrb
              have HL2 := Lib.hid hL2
              clear hrb hL2
              go_wp2_with fail
              have HQ1 := Lib.hid (HQD.out.below (Below.refl _ _).drew)
              refine wp_region_held_drew (S := (fun w' => Below w.heap.size w w')) (by kernel_rfl) (HQD.out.q.b.drew) (fun hHeld => ?_)
              refine tkY 0 oQuPlaysLaw1 ?vv8_42_0 rfl (by kernel_rfl) (by kernel_rfl) (by kernel_rfl) (fun _ _ _ h => h) (by rfl) ?hy8_42_0 (by assumption) ?rest8_42_0
              case hy8_42_0 => (intro w hSw; unfold oQuPlaysLaw1; (try dsimp only at hSw); (try go_split_ands); go_simp; all_goals with_reducible rfl)
              try simp only [oQuPlaysLaw1, Act.put, sA, sB, sC]
              refine tkY 1 oQuPlaysLaw2 ?vv8_42_1 rfl (by kernel_rfl) (by kernel_rfl) (by kernel_rfl) (fun _ _ _ h => h) (by rfl) ?hy8_42_1 (by assumption) ?rest8_42_1
              case hy8_42_1 => (intro w hSw; unfold oQuPlaysLaw2; (try dsimp only at hSw); (try go_split_ands); go_simp; all_goals with_reducible rfl)
              try simp only [oQuPlaysLaw2, Act.put, sA, sB, sC]
              refine tkY 2 oQuPlaysLaw3 ?vv8_42_2 rfl (by kernel_rfl) (by kernel_rfl) (by kernel_rfl) (fun _ _ _ h => h) (by rfl) ?hy8_42_2 (by assumption) ?rest8_42_2
              case hy8_42_2 => (intro w hSw; unfold oQuPlaysLaw3; (try dsimp only at hSw); (try go_split_ands); go_simp; all_goals with_reducible rfl)
              try simp only [oQuPlaysLaw3, Act.put, sA, sB, sC]
              refine tkY 3 oQuPlaysLaw4 ?vv8_42_3 rfl (by kernel_rfl) (by kernel_rfl) (by kernel_rfl) (fun _ _ _ h => h) (by rfl) ?hy8_42_3 (by assumption) ?rest8_42_3
              case hy8_42_3 => (intro w hSw; unfold oQuPlaysLaw4; (try dsimp only at hSw); (try go_split_ands); go_simp; all_goals with_reducible rfl)
              try simp only [oQuPlaysLaw4, Act.put, sA, sB, sC]
              refine tkY 4 oQuPlaysLaw5 ?vv8_42_4 rfl (by kernel_rfl) (by kernel_rfl) (by kernel_rfl) (fun _ _ _ h => h) (by rfl) ?hy8_42_4 (by assumption) ?rest8_42_4
              case hy8_42_4 => (intro w hSw; unfold oQuPlaysLaw5; (try dsimp only at hSw); (try go_split_ands); go_simp; all_goals with_reducible rfl)
              try simp only [oQuPlaysLaw5, Act.put, sA, sB, sC]
              refine tkY 5 oQuPlaysLaw6 ?vv8_43_5 rfl (by kernel_rfl) (by kernel_rfl) (by kernel_rfl) (fun _ _ _ h => h) (by rfl) ?hy8_43_5 (by assumption) ?rest8_43_5
              case hy8_43_5 => (intro w hSw; unfold oQuPlaysLaw6; (try dsimp only at hSw); have qq := HX.out _ hSw; obtain ⟨_, qq0, qq1, qq2, qq3⟩ := qq; dsimp only at qq0 qq1 qq2 qq3; clear hSw; go_simp; all_goals with_reducible rfl)
              try simp only [oQuPlaysLaw6, Act.put, sA, sB, sC]
              refine tkY 7 oQuPlaysLaw7 ?vv8_44_7 rfl (by kernel_rfl) (by kernel_rfl) (by kernel_rfl) (fun _ _ _ h => h) (by rfl) ?hy8_44_7 (by assumption) ?rest8_44_7
              case hy8_44_7 => (intro w hSw; unfold oQuPlaysLaw7; (try dsimp only at hSw); (try go_split_ands); go_simp; all_goals with_reducible rfl)
              try simp only [oQuPlaysLaw7, Act.put, sA, sB, sC]
              refine tkY 8 oQuPlaysLaw8 ?vv8_44_8 rfl (by kernel_rfl) (by kernel_rfl) (by kernel_rfl) (fun _ _ _ h => h) (by rfl) ?hy8_44_8 (by assumption) ?rest8_44_8
              case hy8_44_8 => (intro w hSw; unfold oQuPlaysLaw8; (try dsimp only at hSw); (try go_split_ands); go_simp; all_goals with_reducible rfl)
              try simp only [oQuPlaysLaw8, Act.put, sA, sB, sC]
              refine tkY 9 oQuPlaysLaw9 ?vv8_44_9 rfl (by kernel_rfl) (by kernel_rfl) (by kernel_rfl) (fun _ _ _ h => h) (by rfl) ?hy8_44_9 (by assumption) ?rest8_44_9
              case hy8_44_9 => (intro w hSw; unfold oQuPlaysLaw9; (try dsimp only at hSw); (try go_split_ands); go_simp; all_goals with_reducible rfl)
              try simp only [oQuPlaysLaw9, Act.put, sA, sB, sC]
              refine tkY 10 oQuPlaysLaw10 ?vv8_44_10 rfl (by kernel_rfl) (by kernel_rfl) (by kernel_rfl) (fun _ _ _ h => h) (by rfl) ?hy8_44_10 (by assumption) ?rest8_44_10
              case hy8_44_10 => (intro w hSw; unfold oQuPlaysLaw10; (try dsimp only at hSw); (try go_split_ands); go_simp; all_goals with_reducible rfl)
              try simp only [oQuPlaysLaw10, Act.put, sA, sB, sC]
              refine tkY 11 oQuPlaysLaw11 ?vv8_44_11 rfl (by kernel_rfl) (by kernel_rfl) (by kernel_rfl) (fun _ _ _ h => h) (by rfl) ?hy8_44_11 (by assumption) ?rest8_44_11
              case hy8_44_11 => (intro w hSw; unfold oQuPlaysLaw11; (try dsimp only at hSw); (try go_split_ands); go_simp; all_goals with_reducible rfl)
              try simp only [oQuPlaysLaw11, Act.put, sA, sB, sC]
              refine tkY 12 oQuPlaysLaw12 ?vv8_45_12 rfl (by kernel_rfl) (by kernel_rfl) (by kernel_rfl) (fun _ _ _ h => h) (by rfl) ?hy8_45_12 (by assumption) ?rest8_45_12
              case hy8_45_12 => (intro w hSw; unfold oQuPlaysLaw12; (try dsimp only at hSw); have qq := HX.out _ hSw; obtain ⟨_, qq0, qq1, qq2, qq3⟩ := qq; dsimp only at qq0 qq1 qq2 qq3; clear hSw; go_simp; all_goals with_reducible rfl)
              try simp only [oQuPlaysLaw12, Act.put, sA, sB, sC]
              refine wpAnyH_ready (rs := [6]) (by kernel_rfl) (by simp) ?_
              refine (AllReadyH.cons (o := oQuPlaysLaw13) rfl (fun K hK => ?_) AllReadyH.nil)
              unfold oQuPlaysLaw13
              go_simp
              (go_at_call 11; refine (xPush HQ1.out.q (xf, xc, xq, xb) rb L2 hxf hxc HRb.out HL2.out).mono ?_; rintro e w6 hS6; obtain ⟨F6, rfl, hQ6⟩ := QD.inQ HQ1.out hS6)
              refine hK.out _ _ ?_ (fun hHeld => ?_)
              · (exact hQ6.q.b)
              clear hK K
              try simp only [oQuPlaysLaw13, Act.put, sA, sB, sC]
              have HQ6 := Lib.hid hQ6
              clear hQ6 hS6
              refine wpAnyH_ready (rs := [13]) (by kernel_rfl) (by simp) ?_
              refine (AllReadyH.cons (o := oQuPlaysLaw14) rfl (fun K hK => ?_) AllReadyH.nil)
              unfold oQuPlaysLaw14
              go_simp
              (go_at_call 20; refine (dPush_any HQ6.out.d (xf, xc, xq, xb) rb L2 HRb.out HL2.out).mono ?_; rintro e w7 hS7; obtain ⟨G7, rfl, hQ7⟩ := QD.inD HQ6.out hS7)
              refine hK.out _ _ ?_ (fun hHeld => ?_)
              · (exact hQ7.q.b)
              clear hK K
              try simp only [oQuPlaysLaw14, Act.put, sA, sB, sC]
              have HD := Lib.hid hQ7
              clear hQ7 hS7 HQ6 HQ1 HQD c0 c1 c2 c3 c4 HX
              refine tkY 14 oQuPlaysLaw15 ?vv8_46_14 rfl (by kernel_rfl) (by kernel_rfl) (by kernel_rfl) (fun _ _ _ h => h) (by rfl) ?hy8_46_14 (by assumption) ?rest8_46_14
              case hy8_46_14 => (intro w hSw; unfold oQuPlaysLaw15; (try dsimp only at hSw); (try go_split_ands); go_simp; all_goals with_reducible rfl)
              try simp only [oQuPlaysLaw15, Act.put, sA, sB, sC]
              refine wpAnyH_done (by kernel_rfl) ?_ _
              clear hHeld
              go_wp2_with fail
              go_meet
              case rel => exact ⟨_, _, _, HD.out⟩
            · by_cases h7 : q = 7 ∧ xb = true
              · obtain ⟨h7, rfl⟩ := h7
                have h7b : (q == 7) = true := by simp; omega
                clear h7
                go_wp2_with fail
                refine (xClear HQD.out.q).mono ?_
                rintro e w6 ⟨v6, hS6⟩
                obtain ⟨F6, rfl, hQ6⟩ := QD.inQ HQD.out hS6
                obtain ⟨Ar6, cr6, s0, _, _, _, sf, _⟩ := hQ6.d.form
                have sf0 := sf 0
                have HD := Lib.hid (QD.nilD hQ6)
                clear hS6 hQ6 sf HQD c0 c1 c2 c3 c4 HX
                go_wp2_with fail
                clear s0 sf0
                go_meet
                case rel => exact ⟨_, _, _, HD.out⟩
              · by_cases h6 : q = 6
                · have h6b : (q == 6) = true := by simp; omega
                  have h7b : (q == 7) = false := by simp; omega
                  clear h6 h7
                  cases L with
                  | nil =>
                    go_wp2_with fail
                    refine (xPeek HQD.out.q).mono ?_
                    rintro e w6 hS6
                    obtain ⟨F6, rfl, hQ6⟩ := QD.inQ HQD.out hS6
                    rw [show pkV [] = .tuple #[.agg #[.string ⟨#[]⟩, .string ⟨#[]⟩, .int .u8 0, .bool false], .bool false] from rfl]
                    obtain ⟨W, hW⟩ : ∃ x, x = w6.alloc (.cells #[.string ⟨#[]⟩, .string ⟨#[]⟩, .int .u8 0, .bool false] 28) := ⟨_, rfl⟩
                    have hbW : Below w6.heap.size w6 W := by rw [hW]; exact below_alloc (Below.refl _ _) _
                    have hXb : BxM W w6.heap.size nilMs := by rw [hW]; exact BxM.new w6 nilMs
                    have y0 := hXb.c0; have y1 := hXb.c1; have y2 := hXb.c2; have y3 := hXb.c3
                    unfold nilMs at y0 y1 y2 y3
                    dsimp only at y0 y1 y2 y3
                    have hself : eqM ([], [], 0, false) ([], [], 0, false) = true := rfl
                    have HQ6 := Lib.hid (QD.below hQ6 hbW)
                    obtain ⟨Ar6, cr6, s0, _⟩ := HQ6.out.d.form
                    simp only [List.length_nil] at s0
                    clear hS6 hQ6 hXb hbW HQD c0 c1 c2 c3 c4 HX
                    go_wp2_with fail
                    rw [← hW]
                    clear hW
                    go_quiet (fail)
                    have HD := Lib.hid (QD.below HQ6.out (below_drewN (Below.refl _ _) nq))
                    clear HQ6 y0 y1 y2 y3 s0
                    go_wp2_with fail
                    go_meet
                    case rel => exact ⟨_, _, _, HD.out⟩
                  | cons m L =>
                    obtain ⟨m1, m2, m3, m4⟩ := m
                    go_wp2_with fail
                    refine (xPeek HQD.out.q).mono ?_
                    rintro e w6 hS6
                    obtain ⟨F6, rfl, hQ6⟩ := QD.inQ HQD.out hS6
                    rw [show pkV ((m1, m2, m3, m4) :: L) = .tuple #[.agg #[.string ⟨m1.toArray⟩, .string ⟨m2.toArray⟩, .int .u8 m3, .bool m4], .bool true] from rfl]
                    obtain ⟨W, hW⟩ : ∃ x, x = w6.alloc (.cells #[.string ⟨m1.toArray⟩, .string ⟨m2.toArray⟩, .int .u8 m3, .bool m4] 28) := ⟨_, rfl⟩
                    have hbW : Below w6.heap.size w6 W := by rw [hW]; exact below_alloc (Below.refl _ _) _
                    have hXb : BxM W w6.heap.size (m1, m2, m3, m4) := by rw [hW]; exact BxM.new w6 (m1, m2, m3, m4)
                    have y0 := hXb.c0; have y1 := hXb.c1; have y2 := hXb.c2; have y3 := hXb.c3
                    dsimp only at y0 y1 y2 y3
                    have hself : eqM (m1, m2, m3, m4) (m1, m2, m3, m4) = true := by rw [eqM_iff]; exact beq_self_eq_true _
                    have HQ6 := Lib.hid (QD.below hQ6 hbW)
                    obtain ⟨Ar6, cr6, s0, _, hMs6, _⟩ := HQ6.out.d.form
                    obtain ⟨N6, hN6⟩ : ∃ N6, ((m1, m2, m3, m4) :: L).length = N6 := ⟨_, rfl⟩
                    have hN60 : 0 < N6 := by rw [← hN6]; simp
                    have hN61 : (0 : Int) < (N6 : Int) := by omega
                    have hN62 : decide (0 < N6) = true := by simp; omega
                    rw [hN6] at s0 hMs6
                    obtain ⟨b6, o6, x6, rfl, hx6, z0, z1, z2, z3⟩ := hMs6.at_ (k := 0) hN60
                    obtain rfl : (m1, m2, m3, m4) = x6 := by simpa using hx6
                    rw [Nat.zero_mul, Nat.add_zero] at z0 z1 z2 z3
                    dsimp only at z0 z1 z2 z3
                    clear hS6 hQ6 hXb hbW HQD c0 c1 c2 c3 c4 HX hMs6 hx6 hN6
                    go_wp2_with fail
                    rw [← hW]
                    clear hW
                    go_quiet (fail)
                    have HD := Lib.hid (QD.below HQ6.out (below_drewN (Below.refl _ _) nq))
                    clear HQ6 y0 y1 y2 y3 s0 z0 z1 z2 z3 hN60 hN61 hN62
                    go_wp2_with fail
                    go_meet
                    case rel => exact ⟨_, _, _, HD.out⟩
                · have h6b : (q == 6) = false := by simp; omega
                  obtain ⟨m, ok, hpk⟩ := pk_form L
                  obtain ⟨m1, m2, m3, m4⟩ := m
                  dsimp only at hpk
                  have HPK := Lib.hid hpk
                  have hself : eqM (m1, m2, m3, m4) (m1, m2, m3, m4) = true := by rw [eqM_iff]; exact beq_self_eq_true _
                  clear hpk h6
                  by_cases h7q : q = 7
                  · have h7b : (q == 7) = true := by simp; omega
                    have hxb : xb = false := by
                      cases xb with
                      | true => exact absurd ⟨h7q, rfl⟩ h7
                      | false => rfl
                    subst hxb
                    clear h7q h7
                    go_wp2_with fail
                    refine (xPop HQD.out.q).mono ?_
                    rintro e w6 hS6
                    obtain ⟨F6, rfl, hQ6⟩ := QD.inQ HQD.out hS6
                    rw [HPK.out]
                    obtain ⟨W, hW⟩ : ∃ x, x = w6.alloc (.cells #[.string ⟨m1.toArray⟩, .string ⟨m2.toArray⟩, .int .u8 m3, .bool m4] 28) := ⟨_, rfl⟩
                    have hbW : Below w6.heap.size w6 W := by rw [hW]; exact below_alloc (Below.refl _ _) _
                    have hXb : BxM W w6.heap.size (m1, m2, m3, m4) := by rw [hW]; exact BxM.new w6 (m1, m2, m3, m4)
                    have hnG : ¬ G w6.heap.size := fun h => by have := hQ6.d.lt _ h; omega
                    obtain ⟨bx, hbx⟩ : ∃ x, x = w6.heap.size := ⟨_, rfl⟩
                    rw [← hbx] at hXb hnG
                    have HXb := Lib.hid hXb
                    have HNG := Lib.hid hnG
                    have HQ6 := Lib.hid (QD.below hQ6 hbW)
                    clear hS6 hQ6 hXb hbW HQD c0 c1 c2 c3 c4 HX hnG
                    go_wp2_with fail
                    rw [← hW, ← hbx]
                    clear hW hbx
                    refine (dPop_any HQ6.out.d).mono ?_
                    rintro e w7 hS7
                    have hS8 := hS7
                    obtain ⟨G7, rfl, hQ7⟩ := QD.inD HQ6.out hS7
                    obtain ⟨_, _, _, hO7, _⟩ := hS8
                    have X7 := HXb.out.outs hO7 HNG.out
                    have y0 := X7.c0; have y1 := X7.c1; have y2 := X7.c2; have y3 := X7.c3
                    dsimp only at y0 y1 y2 y3
                    have ylt := X7.lt
                    rw [HPK.out]
                    have HD := Lib.hid (QD.below hQ7 (below_alloc (Below.refl _ _) (.cells #[.string ⟨m1.toArray⟩, .string ⟨m2.toArray⟩, .int .u8 m3, .bool m4] 28)))
                    clear hS7 hQ7 hO7 X7 HQ6 HXb HNG
                    go_wp2_with fail
                    clear y0 y1 y2 y3 ylt
                    go_meet
                    case rel => exact ⟨_, _, _, HD.out⟩
                  · have h7b : (q == 7) = false := by simp; omega
                    clear h7q h7
                    go_wp2_with fail
                    refine (xPop HQD.out.q).mono ?_
                    rintro e w6 hS6
                    obtain ⟨F6, rfl, hQ6⟩ := QD.inQ HQD.out hS6
                    rw [HPK.out]
                    obtain ⟨W, hW⟩ : ∃ x, x = w6.alloc (.cells #[.string ⟨m1.toArray⟩, .string ⟨m2.toArray⟩, .int .u8 m3, .bool m4] 28) := ⟨_, rfl⟩
                    have hbW : Below w6.heap.size w6 W := by rw [hW]; exact below_alloc (Below.refl _ _) _
                    have hXb : BxM W w6.heap.size (m1, m2, m3, m4) := by rw [hW]; exact BxM.new w6 (m1, m2, m3, m4)
                    have hnG : ¬ G w6.heap.size := fun h => by have := hQ6.d.lt _ h; omega
                    obtain ⟨bx, hbx⟩ : ∃ x, x = w6.heap.size := ⟨_, rfl⟩
                    rw [← hbx] at hXb hnG
                    have HXb := Lib.hid hXb
                    have HNG := Lib.hid hnG
                    have HQ6 := Lib.hid (QD.below hQ6 hbW)
                    clear hS6 hQ6 hXb hbW HQD c0 c1 c2 c3 c4 HX hnG
                    go_wp2_with fail
                    rw [← hW, ← hbx]
                    clear hW hbx
                    refine (dPop_any HQ6.out.d).mono ?_
                    rintro e w7 hS7
                    have hS8 := hS7
                    obtain ⟨G7, rfl, hQ7⟩ := QD.inD HQ6.out hS7
                    obtain ⟨_, _, _, hO7, _⟩ := hS8
                    have X7 := HXb.out.outs hO7 HNG.out
                    have y0 := X7.c0; have y1 := X7.c1; have y2 := X7.c2; have y3 := X7.c3
                    dsimp only at y0 y1 y2 y3
                    have ylt := X7.lt
                    rw [HPK.out]
                    have HD := Lib.hid (QD.below hQ7 (below_alloc (Below.refl _ _) (.cells #[.string ⟨m1.toArray⟩, .string ⟨m2.toArray⟩, .int .u8 m3, .bool m4] 28)))
                    clear hS7 hQ7 hO7 X7 HQ6 HXb HNG
                    go_wp2_with fail
                    clear y0 y1 y2 y3 ylt
                    go_meet
                    case rel => exact ⟨_, _, _, HD.out⟩
          obtain ⟨Fx, Gx, Lx, hDx⟩ := hcut
          have HDx := Lib.hid hDx
          clear hDx HQD c0 c1 c2 c3 c4 HX
          obtain ⟨wx, hwx⟩ : ∃ wx, wx = wc := ⟨_, rfl⟩
          subst hwx
          go_wp2_with fail
          obtain ⟨Ar, cr, r0, r1, _, _, _, _⟩ := HDx.out.d.form
          obtain ⟨lx, hlx⟩ : ∃ lx, Lx.length = lx := ⟨_, rfl⟩
          have hlM := HDx.out.q.q.le
          rw [hlx] at r0 hlM
          obtain ⟨ex, hex⟩ : ∃ ex, M - lx = ex := ⟨_, rfl⟩
          have hexI : (M : Int) - (lx : Int) = (ex : Int) := by omega
          have hexw := IntWalk.i64_in (ex : Int) (by omega)
          have HLX := Lib.hid hlx
          have HEX : Hid (M - Lx.length = ex) := by show _ = _; rw [hlx]; exact hex
          clear hlx hex
          refine wp_region_held_drew (S := (fun w' => Below wx.heap.size wx w')) (by kernel_rfl) ((Below.refl _ _).drew) (fun hHeld => ?_)
          refine tkY 0 oQuPlaysLaw16 ?vv9_47_0 rfl (by kernel_rfl) (by kernel_rfl) (by kernel_rfl) (fun _ _ _ h => h) (by rfl) ?hy9_47_0 (by assumption) ?rest9_47_0
          case hy9_47_0 => (intro w hSw; unfold oQuPlaysLaw16; (try dsimp only at hSw); (try go_split_ands); go_simp; all_goals with_reducible rfl)
          try simp only [oQuPlaysLaw16, Act.put, sA, sB, sC]
          refine tkY 2 oQuPlaysLaw17 ?vv9_47_2 rfl (by kernel_rfl) (by kernel_rfl) (by kernel_rfl) (fun _ _ _ h => h) (by rfl) ?hy9_47_2 (by assumption) ?rest9_47_2
          case hy9_47_2 => (intro w hSw; unfold oQuPlaysLaw17; (try dsimp only at hSw); (try go_split_ands); go_simp; all_goals with_reducible rfl)
          try simp only [oQuPlaysLaw17, Act.put, sA, sB, sC]
          refine tkY 3 oQuPlaysLaw18 ?vv9_47_3 rfl (by kernel_rfl) (by kernel_rfl) (by kernel_rfl) (fun _ _ _ h => h) (by rfl) ?hy9_47_3 (by assumption) ?rest9_47_3
          case hy9_47_3 => (intro w hSw; unfold oQuPlaysLaw18; (try dsimp only at hSw); (try go_split_ands); go_simp; all_goals with_reducible rfl)
          try simp only [oQuPlaysLaw18, Act.put, sA, sB, sC]
          refine tkY 4 oQuPlaysLaw19 ?vv9_47_4 rfl (by kernel_rfl) (by kernel_rfl) (by kernel_rfl) (fun _ _ _ h => h) (by rfl) ?hy9_47_4 (by assumption) ?rest9_47_4
          case hy9_47_4 => (intro w hSw; unfold oQuPlaysLaw19; (try dsimp only at hSw); (try go_split_ands); go_simp; all_goals with_reducible rfl)
          try simp only [oQuPlaysLaw19, Act.put, sA, sB, sC]
          refine tkY 5 oQuPlaysLaw20 ?vv9_48_5 rfl (by kernel_rfl) (by kernel_rfl) (by kernel_rfl) (fun _ _ _ h => h) (by rfl) ?hy9_48_5 (by assumption) ?rest9_48_5
          case hy9_48_5 => (intro w hSw; unfold oQuPlaysLaw20; (try dsimp only at hSw); have q9 := (hSw.cell (World.block_lt_of_cell? _ _ r0)).trans r0; clear hSw; go_simp; all_goals with_reducible rfl)
          try simp only [oQuPlaysLaw20, Act.put, sA, sB, sC]
          refine tkY 6 oQuPlaysLaw21 ?vv9_49_6 rfl (by kernel_rfl) (by kernel_rfl) (by kernel_rfl) (fun _ _ _ h => h) (by rfl) ?hy9_49_6 (by assumption) ?rest9_49_6
          case hy9_49_6 => (intro w hSw; unfold oQuPlaysLaw21; (try dsimp only at hSw); (try go_split_ands); go_simp; all_goals with_reducible rfl)
          try simp only [oQuPlaysLaw21, Act.put, sA, sB, sC]
          refine wpAnyH_ready (rs := [1]) (by kernel_rfl) (by simp) ?_
          refine AllReadyH.cons (o := oQuPlaysLaw22) rfl (fun K hK => ?_) AllReadyH.nil
          unfold oQuPlaysLaw22
          go_simp
          (go_at_call 10; refine (HLX.out ▸ qLen (HDx.out.q.q.below hHeld)).mono ?_; rintro e wy ⟨rfl, hb6⟩)
          refine hK.out _ _ ?_ (fun hHeld => ?_)
          · (exact below_more hHeld hb6)
          clear hK K
          try simp only [oQuPlaysLaw22, Act.put, sA, sB, sC]
          refine tkY 7 oQuPlaysLaw23 ?vv9_50_7 rfl (by kernel_rfl) (by kernel_rfl) (by kernel_rfl) (fun _ _ _ h => h) (by rfl) ?hy9_50_7 (by assumption) ?rest9_50_7
          case hy9_50_7 => (intro w hSw; unfold oQuPlaysLaw23; (try dsimp only at hSw); (try go_split_ands); go_simp; all_goals with_reducible rfl)
          try simp only [oQuPlaysLaw23, Act.put, sA, sB, sC]
          refine tkY 8 oQuPlaysLaw24 ?vv9_50_8 rfl (by kernel_rfl) (by kernel_rfl) (by kernel_rfl) (fun _ _ _ h => h) (by rfl) ?hy9_50_8 (by assumption) ?rest9_50_8
          case hy9_50_8 => (intro w hSw; unfold oQuPlaysLaw24; (try dsimp only at hSw); (try go_split_ands); go_simp; all_goals with_reducible rfl)
          try simp only [oQuPlaysLaw24, Act.put, sA, sB, sC]
          refine tkY 9 oQuPlaysLaw25 ?vv9_50_9 rfl (by kernel_rfl) (by kernel_rfl) (by kernel_rfl) (fun _ _ _ h => h) (by rfl) ?hy9_50_9 (by assumption) ?rest9_50_9
          case hy9_50_9 => (intro w hSw; unfold oQuPlaysLaw25; (try dsimp only at hSw); (try go_split_ands); go_simp; all_goals with_reducible rfl)
          try simp only [oQuPlaysLaw25, Act.put, sA, sB, sC]
          refine tkY 11 oQuPlaysLaw26 ?vv9_50_11 rfl (by kernel_rfl) (by kernel_rfl) (by kernel_rfl) (fun _ _ _ h => h) (by rfl) ?hy9_50_11 (by assumption) ?rest9_50_11
          case hy9_50_11 => (intro w hSw; unfold oQuPlaysLaw26; (try dsimp only at hSw); (try go_split_ands); go_simp; all_goals with_reducible rfl)
          try simp only [oQuPlaysLaw26, Act.put, sA, sB, sC]
          refine tkY 12 oQuPlaysLaw27 ?vv9_50_12 rfl (by kernel_rfl) (by kernel_rfl) (by kernel_rfl) (fun _ _ _ h => h) (by rfl) ?hy9_50_12 (by assumption) ?rest9_50_12
          case hy9_50_12 => (intro w hSw; unfold oQuPlaysLaw27; (try dsimp only at hSw); (try go_split_ands); go_simp; all_goals with_reducible rfl)
          try simp only [oQuPlaysLaw27, Act.put, sA, sB, sC]
          refine tkY 13 oQuPlaysLaw28 ?vv9_50_13 rfl (by kernel_rfl) (by kernel_rfl) (by kernel_rfl) (fun _ _ _ h => h) (by rfl) ?hy9_50_13 (by assumption) ?rest9_50_13
          case hy9_50_13 => (intro w hSw; unfold oQuPlaysLaw28; (try dsimp only at hSw); (try go_split_ands); go_simp; all_goals with_reducible rfl)
          try simp only [oQuPlaysLaw28, Act.put, sA, sB, sC]
          refine tkY 14 oQuPlaysLaw29 ?vv9_51_14 rfl (by kernel_rfl) (by kernel_rfl) (by kernel_rfl) (fun _ _ _ h => h) (by rfl) ?hy9_51_14 (by assumption) ?rest9_51_14
          case hy9_51_14 => (intro w hSw; unfold oQuPlaysLaw29; (try dsimp only at hSw); have q9 := (hSw.cell (World.block_lt_of_cell? _ _ r1)).trans r1; clear hSw; go_simp; all_goals with_reducible rfl)
          try simp only [oQuPlaysLaw29, Act.put, sA, sB, sC]
          refine tkY 15 oQuPlaysLaw30 ?vv9_52_15 rfl (by kernel_rfl) (by kernel_rfl) (by kernel_rfl) (fun _ _ _ h => h) (by rfl) ?hy9_52_15 (by assumption) ?rest9_52_15
          case hy9_52_15 => (intro w hSw; unfold oQuPlaysLaw30; (try dsimp only at hSw); (try go_split_ands); go_simp; all_goals with_reducible rfl)
          try simp only [oQuPlaysLaw30, Act.put, sA, sB, sC]
          refine tkY 16 oQuPlaysLaw31 ?vv9_52_16 rfl (by kernel_rfl) (by kernel_rfl) (by kernel_rfl) (fun _ _ _ h => h) (by rfl) ?hy9_52_16 (by assumption) ?rest9_52_16
          case hy9_52_16 => (intro w hSw; unfold oQuPlaysLaw31; (try dsimp only at hSw); (try go_split_ands); go_simp; all_goals with_reducible rfl)
          try simp only [oQuPlaysLaw31, Act.put, sA, sB, sC]
          refine tkY 17 oQuPlaysLaw32 ?vv9_52_17 rfl (by kernel_rfl) (by kernel_rfl) (by kernel_rfl) (fun _ _ _ h => h) (by rfl) ?hy9_52_17 (by assumption) ?rest9_52_17
          case hy9_52_17 => (intro w hSw; unfold oQuPlaysLaw32; (try dsimp only at hSw); (try go_split_ands); go_simp; all_goals with_reducible rfl)
          try simp only [oQuPlaysLaw32, Act.put, sA, sB, sC]
          refine tkY 18 oQuPlaysLaw33 ?vv9_53_18 rfl (by kernel_rfl) (by kernel_rfl) (by kernel_rfl) (fun _ _ _ h => h) (by rfl) ?hy9_53_18 (by assumption) ?rest9_53_18
          case hy9_53_18 => (intro w hSw; unfold oQuPlaysLaw33; (try dsimp only at hSw); have q9 := (hSw.cell (World.block_lt_of_cell? _ _ r0)).trans r0; clear hSw; go_simp; all_goals with_reducible rfl)
          try simp only [oQuPlaysLaw33, Act.put, sA, sB, sC]
          refine tkY 19 oQuPlaysLaw34 ?vv9_54_19 rfl (by kernel_rfl) (by kernel_rfl) (by kernel_rfl) (fun _ _ _ h => h) (by rfl) ?hy9_54_19 (by assumption) ?rest9_54_19
          case hy9_54_19 => (intro w hSw; unfold oQuPlaysLaw34; (try dsimp only at hSw); (try go_split_ands); go_simp; all_goals with_reducible rfl)
          try simp only [oQuPlaysLaw34, Act.put, sA, sB, sC]
          refine tkY 20 oQuPlaysLaw35 ?vv9_54_20 rfl (by kernel_rfl) (by kernel_rfl) (by kernel_rfl) (fun _ _ _ h => h) (by rfl) ?hy9_54_20 (by assumption) ?rest9_54_20
          case hy9_54_20 => (intro w hSw; unfold oQuPlaysLaw35; (try dsimp only at hSw); (try go_split_ands); go_simp; all_goals with_reducible rfl)
          try simp only [oQuPlaysLaw35, Act.put, sA, sB, sC]
          refine wpAnyH_ready (rs := [10]) (by kernel_rfl) (by simp) ?_
          refine AllReadyH.cons (o := oQuPlaysLaw36) rfl (fun K hK => ?_) AllReadyH.nil
          unfold oQuPlaysLaw36
          go_simp
          (go_at_call 9; refine (HEX.out ▸ qRoom (HDx.out.q.q.below hHeld)).mono ?_; rintro e wz ⟨rfl, hb6⟩)
          refine hK.out _ _ ?_ (fun hHeld => ?_)
          · (exact below_more hHeld hb6)
          clear hK K
          try simp only [oQuPlaysLaw36, Act.put, sA, sB, sC]
          refine tkY 21 oQuPlaysLaw37 ?vv9_55_21 rfl (by kernel_rfl) (by kernel_rfl) (by kernel_rfl) (fun _ _ _ h => h) (by rfl) ?hy9_55_21 (by assumption) ?rest9_55_21
          case hy9_55_21 => (intro w hSw; unfold oQuPlaysLaw37; (try dsimp only at hSw); (try go_split_ands); go_simp; all_goals with_reducible rfl)
          try simp only [oQuPlaysLaw37, Act.put, sA, sB, sC]
          refine tkY 22 oQuPlaysLaw38 ?vv9_55_22 rfl (by kernel_rfl) (by kernel_rfl) (by kernel_rfl) (fun _ _ _ h => h) (by rfl) ?hy9_55_22 (by assumption) ?rest9_55_22
          case hy9_55_22 => (intro w hSw; unfold oQuPlaysLaw38; (try dsimp only at hSw); (try go_split_ands); go_simp; all_goals with_reducible rfl)
          try simp only [oQuPlaysLaw38, Act.put, sA, sB, sC]
          refine wpAnyH_done (by kernel_rfl) ?_ _
          have HDy := Lib.hid (HDx.out.below hHeld)
          clear hHeld HDx r0 r1 hexI hexw HEX
          by_cases hr0 : r = 0
          · have hrb1 : ((r : Int) == 0) = true := by simp; omega
            have hrb2 : (r == 0) = true := by simp; omega
            clear hr0
            go_wp2_with fail
            go_loopw [15] (fun tv wr => ∃ (j : Nat), tv = .int .i64 j ∧ j ≤ 2 ∧ QD w wr t g Fx Gx M Lx Lx) (fun tv _ => 2 - (intOf tv).toNat)
            case atStart => exact ⟨0, rfl, by omega, HDy.out⟩
            case round =>
              clear HDy
              obtain ⟨j, rfl, hj, hD9⟩ := hrel
              have HD9 := Lib.hid hD9
              clear hD9
              by_cases hj2 : j < 2
              · have hj2I : (j : Int) < 2 := by omega
                go_wp2_with fail
                refine (xAll HD9.out.q).mono ?_
                rintro e wa ⟨va, rfl, hra, hqa, hba⟩
                have hra2 := hra
                obtain ⟨Aa, ca, rfl, hca, hMa, hAa, _⟩ := mrow_form hra
                have HDa := Lib.hid (HD9.out.below hba)
                obtain ⟨Ad, cd, d0, d1, hMd, hAd, _, _⟩ := HDa.out.d.form
                have hFb : ∀ b, Fx b → b < _ := HD9.out.q.q.lt
                have hGb : ∀ b, Gx b → b < _ := HD9.out.d.lt
                rw [HLX.out] at d0 hra2 hMa hMd
                have hbs := hqa.b.size
                have hbs2 : w.heap.size ≤ wr.heap.size := HD9.out.q.b.size
                obtain ⟨base, hbase⟩ : ∃ base, base = wr.heap.size := ⟨_, rfl⟩
                rw [← hbase] at hra2 hFb hGb hbs2
                have HRa := Lib.hid hra2
                have HMa := Lib.hid hMa
                have HMd := Lib.hid hMd
                have HFb := Lib.hid hFb
                have HGb := Lib.hid hGb
                have hlx2 := HLX.out
                clear hra hra2 hqa hba hMa hMd hFb hGb HD9 hbase hbs
                go_wp2_with fail
                refine (same12_eq Aa lx ca Lx Ad lx cd Lx true _ HMa.out HMd.out (by omega) (beq_self_eq_true _)).mono ?_
                rintro e wc ⟨rfl, hbc⟩
                have HDc := Lib.hid (HDa.out.below hbc)
                have HRc := Lib.hid (own_below HRa.out hbc)
                clear HDa HRa HMa HMd hbc d0 d1
                go_wp2_with fail
                go_loopw [17] (fun iv wr => ∃ (i : Nat) (X : List Ms), iv = .int .i64 i ∧ i ≤ lx ∧ QD w wr t g Fx Gx M Lx Lx ∧ wr.ownsRow base 28 4 (.slice Aa lx ca) lx (flatM X)) (fun iv _ => lx - (intOf iv).toNat)
                case atStart => exact ⟨0, Lx, rfl, by omega, HDc.out, HRc.out⟩
                case round =>
                  clear HDc HRc
                  obtain ⟨i, X, rfl, hil, hDi, hRi⟩ := hrel
                  by_cases hill : i < lx
                  · have hillI : (i : Int) < (lx : Int) := by omega
                    obtain ⟨ga, ca2, cur, ea, _, _, _, _, _, hgb, _⟩ := mrow_form1 hRi (by omega)
                    injection ea with ea1 ea2 ea3
                    subst ea1
                    have hXl := mrow_len hRi
                    have HDi := Lib.hid hDi
                    have HRi := Lib.hid hRi
                    have hgF : ¬ Fx ga := fun h => by have := HFb.out ga h; omega
                    have hgG : ¬ Gx ga := fun h => by have := HGb.out ga h; omega
                    clear hDi hRi ea2 ea3
                    go_wp2_with fail
                    refine (message_any [115, 112, 111, 105, 108, 116] _).mono ?_
                    rintro e wd ⟨rfl, hbd⟩
                    have HDd := Lib.hid (HDi.out.below hbd)
                    have hRd := own_below HRi.out hbd
                    obtain ⟨y, hy⟩ : ∃ y, X[i]? = some y := ⟨X[i]'(by omega), List.getElem?_eq_getElem (by omega)⟩
                    obtain ⟨y0, y1, y2, y3⟩ := mrow_at hRd hy
                    have fz := fun z => World.ownsRow.frozenAt hRd z
                    have HRd := Lib.hid hRd
                    clear hbd hRd hy HDi HRi
                    go_wp2_with fail
                    have hput := mrow_put HRd.out i ([115, 112, 111, 105, 108, 116], [], 0, false)
                    have hO4 : Outs wd ((((wd.setCell ⟨ga, i * 4, none⟩ (.string ⟨#[115, 112, 111, 105, 108, 116]⟩)).setCell ⟨ga, i * 4 + 1, none⟩ (.string ⟨#[]⟩)).setCell ⟨ga, i * 4 + 2, none⟩ (.int .u8 0)).setCell ⟨ga, i * 4 + 3, none⟩ (.bool false)) (fun x => x = ga) :=
                      ((((Outs.refl wd (fun x => x = ga)).setCell ga _ rfl _).setCell ga _ rfl _).setCell ga _ rfl _).setCell ga _ rfl _
                    have hD4 := HDd.out.outs hO4 (fun x hF e => hgF (e ▸ hF)) (fun x hG e => hgG (e ▸ hG)) (fun x e => by have : x = ga := e; omega)
                    have HD4 := Lib.hid hD4
                    have HP4 := Lib.hid hput
                    clear hput hO4 hD4 y0 y1 y2 y3 fz HDd HRd
                    go_roundw
                    case rel => exact ⟨i + 1, _, by go_num, by omega, HD4.out, HP4.out⟩
                    case measure => simp [intOf]; omega
                  · have hillI : ¬ (i : Int) < (lx : Int) := by omega
                    have HDi := Lib.hid hDi
                    clear hDi hRi
                    go_wp2_with fail
                    go_roundw
                    case rel => exact ⟨j + 1, by go_num, by omega, HDi.out⟩
                    case measure => simp [intOf]; omega
              · have hj2I : ¬ (j : Int) < 2 := by omega
                go_wp2_with fail
                go_roundw
                case rel => exact ⟨k + 1, Fx, Gx, Lx, by go_num, by omega, HD9.out⟩
                case measure => simp [intOf]; omega
          · have hrb1 : ((r : Int) == 0) = false := by simp; omega
            have hrb2 : (r == 0) = false := by simp; omega
            clear hr0
            by_cases hkn : k = nm
            · have hkb1 : ((k : Int) == (nm : Int)) = true := by simp; omega
              have hkb2 : (k == nm) = true := by simp; omega
              clear hkn
              go_wp2_with fail
              go_loopw [15] (fun tv wr => ∃ (j : Nat), tv = .int .i64 j ∧ j ≤ 2 ∧ QD w wr t g Fx Gx M Lx Lx) (fun tv _ => 2 - (intOf tv).toNat)
              case atStart => exact ⟨0, rfl, by omega, HDy.out⟩
              case round =>
                clear HDy
                obtain ⟨j, rfl, hj, hD9⟩ := hrel
                have HD9 := Lib.hid hD9
                clear hD9
                by_cases hj2 : j < 2
                · have hj2I : (j : Int) < 2 := by omega
                  go_wp2_with fail
                  refine (xAll HD9.out.q).mono ?_
                  rintro e wa ⟨va, rfl, hra, hqa, hba⟩
                  have hra2 := hra
                  obtain ⟨Aa, ca, rfl, hca, hMa, hAa, _⟩ := mrow_form hra
                  have HDa := Lib.hid (HD9.out.below hba)
                  obtain ⟨Ad, cd, d0, d1, hMd, hAd, _, _⟩ := HDa.out.d.form
                  have hFb : ∀ b, Fx b → b < _ := HD9.out.q.q.lt
                  have hGb : ∀ b, Gx b → b < _ := HD9.out.d.lt
                  rw [HLX.out] at d0 hra2 hMa hMd
                  have hbs := hqa.b.size
                  have hbs2 : w.heap.size ≤ wr.heap.size := HD9.out.q.b.size
                  obtain ⟨base, hbase⟩ : ∃ base, base = wr.heap.size := ⟨_, rfl⟩
                  rw [← hbase] at hra2 hFb hGb hbs2
                  have HRa := Lib.hid hra2
                  have HMa := Lib.hid hMa
                  have HMd := Lib.hid hMd
                  have HFb := Lib.hid hFb
                  have HGb := Lib.hid hGb
                  have hlx2 := HLX.out
                  clear hra hra2 hqa hba hMa hMd hFb hGb HD9 hbase hbs
                  go_wp2_with fail
                  refine (same12_eq Aa lx ca Lx Ad lx cd Lx true _ HMa.out HMd.out (by omega) (beq_self_eq_true _)).mono ?_
                  rintro e wc ⟨rfl, hbc⟩
                  have HDc := Lib.hid (HDa.out.below hbc)
                  have HRc := Lib.hid (own_below HRa.out hbc)
                  clear HDa HRa HMa HMd hbc d0 d1
                  go_wp2_with fail
                  go_loopw [17] (fun iv wr => ∃ (i : Nat) (X : List Ms), iv = .int .i64 i ∧ i ≤ lx ∧ QD w wr t g Fx Gx M Lx Lx ∧ wr.ownsRow base 28 4 (.slice Aa lx ca) lx (flatM X)) (fun iv _ => lx - (intOf iv).toNat)
                  case atStart => exact ⟨0, Lx, rfl, by omega, HDc.out, HRc.out⟩
                  case round =>
                    clear HDc HRc
                    obtain ⟨i, X, rfl, hil, hDi, hRi⟩ := hrel
                    by_cases hill : i < lx
                    · have hillI : (i : Int) < (lx : Int) := by omega
                      obtain ⟨ga, ca2, cur, ea, _, _, _, _, _, hgb, _⟩ := mrow_form1 hRi (by omega)
                      injection ea with ea1 ea2 ea3
                      subst ea1
                      have hXl := mrow_len hRi
                      have HDi := Lib.hid hDi
                      have HRi := Lib.hid hRi
                      have hgF : ¬ Fx ga := fun h => by have := HFb.out ga h; omega
                      have hgG : ¬ Gx ga := fun h => by have := HGb.out ga h; omega
                      clear hDi hRi ea2 ea3
                      go_wp2_with fail
                      refine (message_any [115, 112, 111, 105, 108, 116] _).mono ?_
                      rintro e wd ⟨rfl, hbd⟩
                      have HDd := Lib.hid (HDi.out.below hbd)
                      have hRd := own_below HRi.out hbd
                      obtain ⟨y, hy⟩ : ∃ y, X[i]? = some y := ⟨X[i]'(by omega), List.getElem?_eq_getElem (by omega)⟩
                      obtain ⟨y0, y1, y2, y3⟩ := mrow_at hRd hy
                      have fz := fun z => World.ownsRow.frozenAt hRd z
                      have HRd := Lib.hid hRd
                      clear hbd hRd hy HDi HRi
                      go_wp2_with fail
                      have hput := mrow_put HRd.out i ([115, 112, 111, 105, 108, 116], [], 0, false)
                      have hO4 : Outs wd ((((wd.setCell ⟨ga, i * 4, none⟩ (.string ⟨#[115, 112, 111, 105, 108, 116]⟩)).setCell ⟨ga, i * 4 + 1, none⟩ (.string ⟨#[]⟩)).setCell ⟨ga, i * 4 + 2, none⟩ (.int .u8 0)).setCell ⟨ga, i * 4 + 3, none⟩ (.bool false)) (fun x => x = ga) :=
                        ((((Outs.refl wd (fun x => x = ga)).setCell ga _ rfl _).setCell ga _ rfl _).setCell ga _ rfl _).setCell ga _ rfl _
                      have hD4 := HDd.out.outs hO4 (fun x hF e => hgF (e ▸ hF)) (fun x hG e => hgG (e ▸ hG)) (fun x e => by have : x = ga := e; omega)
                      have HD4 := Lib.hid hD4
                      have HP4 := Lib.hid hput
                      clear hput hO4 hD4 y0 y1 y2 y3 fz HDd HRd
                      go_roundw
                      case rel => exact ⟨i + 1, _, by go_num, by omega, HD4.out, HP4.out⟩
                      case measure => simp [intOf]; omega
                    · have hillI : ¬ (i : Int) < (lx : Int) := by omega
                      have HDi := Lib.hid hDi
                      clear hDi hRi
                      go_wp2_with fail
                      go_roundw
                      case rel => exact ⟨j + 1, by go_num, by omega, HDi.out⟩
                      case measure => simp [intOf]; omega
                · have hj2I : ¬ (j : Int) < 2 := by omega
                  go_wp2_with fail
                  go_roundw
                  case rel => exact ⟨k + 1, Fx, Gx, Lx, by go_num, by omega, HD9.out⟩
                  case measure => simp [intOf]; omega
            · have hkb1 : ((k : Int) == (nm : Int)) = false := by simp; omega
              have hkb2 : (k == nm) = false := by simp; omega
              clear hkn
              go_wp2_with fail
              go_roundw
              case rel => exact ⟨k + 1, Fx, Gx, Lx, by go_num, by omega, HDy.out⟩
              case measure => simp [intOf]; omega
        · have hltI : ¬ (k : Int) < (n : Int) := by omega
          go_wp2_with fail
          refine (awake12_any _).mono ?_
          rintro e w2 ⟨rfl, hb⟩
          go_wp2_with fail
          go_ret
          exact ⟨rfl, below_more HQD.out.q.b hb⟩
set_option maxRecDepth 100000 in
theorem lifted (os : Os) (started : os.Started) (H : Type) (enc : TypeId × Value → H) :
    ReturnsInHanded {} Try.checked os 4 .any (Rows.queuePlaysSpec.pre6 enc Try.prog Try.f4 Rows.queuePlaysRow.domain false) (Rows.queuePlaysSpec.post enc Try.prog Try.f4 false true false false) := by
  refine returnsInHanded_of_change_sized (C := Try.checked) own_none started (by kernel_rfl) Try.func4
    (ChangeSpec.witness6 (enc := enc) (C := Try.checked) false ⟨#[], #[.int .i64 0, .slice none 0 0], []⟩ 8 (by kernel_rfl) (by kernel_rfl) (by kernel_rfl) (by kernel_rfl)) ?_
  intro W base args ds gs before hval0 hW hcnd hwt _
  have hval : ∀ (j : Nat) t v, Try.f4.params[j]? = some t → args[j]? = some v → Value.okWide Try.prog W .any base t v := hval0
  have hWk := hW
  obtain ⟨p, q, hA0, hV, hbef, _, _⟩ := hWk
  have hA : DataW.TrodAll enc Try.prog W 0 (fun _ => true) true Try.f4.params.toList args.toList ds p := hA0
  obtain ⟨rfl, rfl⟩ := trodVars_none hV
  rw [Try.params4] at hA hval
  obtain ⟨v0, vs0, d0, ds0, p0, q0, hargs, rfl, hp0, h0, r0⟩ := trodAll_cons hA
  obtain ⟨v1, vs1, d1, ds1, p1, q1, rfl, rfl, hp1, h1, r1⟩ := trodAll_cons r0
  obtain ⟨rfl, rfl, hpn⟩ := trodAll_nil r1
  obtain rfl : args = #[v0, v1] := by cases args; simp_all
  obtain ⟨a0, rfl, rfl, hx0, w0⟩ := open_int Try.underlying3 (hval 0 3 v0 rfl rfl) h0
  obtain ⟨A1, n1, c1, l1, rfl, hs1, _, hn1, hi1⟩ := open_Aqs (hval 1 38 v1 rfl rfl) h1 (fun n hn => of_decide_eq_true (List.all_eq_true.1 hwt n (DataW.weights_mem_each (j := 1) (t := 38) (by rfl) (by rfl) n hn)))
  refine (walk W a0 w0 A1 n1 c1 l1 hs1 hn1 hi1).mono fun e W' ⟨he, hg⟩ => ?_
  subst he
  exact ⟨_, rfl, law_post laid_out (by kernel_rfl) rfl (by kernel_rfl) Try.underlying4 hW rfl hg⟩

theorem over : Rows.queuePlaysRow.holds Try.pinned (OpenSpec.ofChange Rows.queuePlaysSpec) :=
  OpenClaim.holds_of_wide 4 Try.f4 rfl rfl rfl rfl rfl rfl rfl ⟨rfl, rfl, rfl, rfl, rfl⟩ rfl rfl rfl rfl rfl (by kernel_rfl) Try.func4 (by kernel_rfl)
    (of_decide_eq_true (by kernel_rfl)) (by unfold Func.isWrapper; first | (rw [if_pos (by decide +kernel)]; kernel_rfl) | (rw [if_neg (by decide +kernel)]; exact ⟨rfl, rfl⟩))
    (fun os started H enc _ => lifted os started H enc)

/-- THE STATEMENT. -/
theorem proved : Rows.QueuePlaysSaid :=
  over
end Go.Proofs.Ytihgikhnkkmhhaa.lawQueuePlays
