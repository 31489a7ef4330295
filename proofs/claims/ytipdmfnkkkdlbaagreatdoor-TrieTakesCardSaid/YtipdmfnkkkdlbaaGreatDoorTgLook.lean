/-
  trie: who has a filter that takes a name: the closure that calls itself along the name's levels.
-/
import Derived.Test.YtipdmfnkkkdlbaaGreatDoorTgAdd2
import Derived.Test.YtipdmfnkkkdlbaaGreatDoorLast
import Derived.Laws.EntriesVeiled
set_option linter.unusedSimpArgs false
set_option linter.unusedVariables false
namespace Go.Proofs.YtipdmfnkkkdlbaaGreatDoor
section
open Go.RowKit
def oTgLook1 : Oper := ({ dst := some 38, op := Go.Op.load 51 (Go.Operand.tmp 3), type := 51, pos := "trie.go:95", after := #[], guard := none } : Oper)
def oTgLook2 : Oper := ({ dst := some 39, op := Go.Op.move (Go.Operand.tmp 0), type := 57, pos := "trie.go:95", after := #[], guard := none } : Oper)
def oTgLook3 : Oper := ({ dst := some 40, op := Go.Op.nilCheck (Go.Operand.tmp 39), type := 0, pos := "trie.go:95", after := #[{ on := 1, ground := Go.Ground.data }], guard := none } : Oper)
def oTgLook4 : Oper := ({ dst := some 41, op := Go.Op.fieldAddr 53 (Go.Operand.tmp 40) 1, type := 0, pos := "trie.go:95", after := #[{ on := 2, ground := Go.Ground.data }], guard := none } : Oper)
def oTgLook5 : Oper := ({ dst := some 42, op := Go.Op.load 51 (Go.Operand.tmp 41), type := 51, pos := "trie.go:95", after := #[{ on := 3, ground := Go.Ground.data }], guard := none } : Oper)
def oTgLook6 : Oper := ({ dst := some 43, op := Go.Op.call { callee := Go.Callee.value (Go.Operand.func 44), args := #[Go.Operand.tmp 38, Go.Operand.tmp 42], argTypes := #[51, 51] }, type := 0, pos := "trie.go:95", after := #[{ on := 0, ground := Go.Ground.data }, { on := 4, ground := Go.Ground.data }], guard := none } : Oper)
def oTgLook7 : Oper := ({ dst := some 44, op := Go.Op.load 63 (Go.Operand.tmp 5), type := 63, pos := "trie.go:98", after := #[], guard := none } : Oper)
def oTgLook8 : Oper := ({ dst := some 45, op := Go.Op.move (Go.Operand.tmp 0), type := 57, pos := "trie.go:98", after := #[], guard := none } : Oper)
def oTgLook9 : Oper := ({ dst := some 46, op := Go.Op.nilCheck (Go.Operand.tmp 45), type := 0, pos := "trie.go:98", after := #[{ on := 1, ground := Go.Ground.data }], guard := none } : Oper)
def oTgLook10 : Oper := ({ dst := some 47, op := Go.Op.fieldAddr 53 (Go.Operand.tmp 46) 0, type := 0, pos := "trie.go:98", after := #[{ on := 2, ground := Go.Ground.data }], guard := none } : Oper)
def oTgLook11 : Oper := ({ dst := some 48, op := Go.Op.load 49 (Go.Operand.tmp 47), type := 49, pos := "trie.go:98", after := #[{ on := 3, ground := Go.Ground.data }], guard := none } : Oper)
def oTgLook12 : Oper := ({ dst := some 49, op := Go.Op.load 36 (Go.Operand.tmp 4), type := 36, pos := "trie.go:98", after := #[], guard := none } : Oper)
def oTgLook13 : Oper := ({ dst := some 50, op := Go.Op.move (Go.Operand.tmp 1), type := 3, pos := "trie.go:98", after := #[], guard := none } : Oper)
def oTgLook14 : Oper := ({ dst := some 51, op := Go.Op.indexAddr 36 (Go.Operand.tmp 49) (Go.Operand.tmp 50), type := 0, pos := "trie.go:98", after := #[{ on := 5, ground := Go.Ground.data }, { on := 6, ground := Go.Ground.data }], guard := none } : Oper)
def oTgLook15 : Oper := ({ dst := some 52, op := Go.Op.load 9 (Go.Operand.tmp 51), type := 9, pos := "trie.go:98", after := #[{ on := 7, ground := Go.Ground.data }], guard := none } : Oper)
def oTgLook16 : Oper := ({ dst := some 53, op := Go.Op.lookup 49 (Go.Operand.tmp 48) (Go.Operand.tmp 52) false, type := 57, pos := "trie.go:98", after := #[{ on := 4, ground := Go.Ground.data }, { on := 8, ground := Go.Ground.data }], guard := none } : Oper)
def oTgLook17 : Oper := ({ dst := some 54, op := Go.Op.move (Go.Operand.tmp 1), type := 3, pos := "trie.go:98", after := #[], guard := none } : Oper)
def oTgLook18 : Oper := ({ dst := some 55, op := Go.Op.binOp Go.BinOp.add 3 (Go.Operand.tmp 54) (Go.Operand.const (Go.Value.int Go.IntKind.i64 1)) 3, type := 3, pos := "trie.go:98", after := #[{ on := 10, ground := Go.Ground.data }], guard := none } : Oper)
def oTgLook19 : Oper := ({ dst := some 56, op := Go.Op.call { callee := Go.Callee.value (Go.Operand.tmp 44), args := #[Go.Operand.tmp 53, Go.Operand.tmp 55], argTypes := #[57, 3] }, type := 0, pos := "trie.go:98", after := #[{ on := 0, ground := Go.Ground.data }, { on := 9, ground := Go.Ground.data }, { on := 11, ground := Go.Ground.data }], guard := none } : Oper)
def oTgLook20 : Oper := ({ dst := some 58, op := Go.Op.load 63 (Go.Operand.tmp 5), type := 63, pos := "trie.go:100", after := #[], guard := none } : Oper)
def oTgLook21 : Oper := ({ dst := some 59, op := Go.Op.move (Go.Operand.tmp 0), type := 57, pos := "trie.go:100", after := #[], guard := none } : Oper)
def oTgLook22 : Oper := ({ dst := some 60, op := Go.Op.nilCheck (Go.Operand.tmp 59), type := 0, pos := "trie.go:100", after := #[{ on := 1, ground := Go.Ground.data }], guard := none } : Oper)
def oTgLook23 : Oper := ({ dst := some 61, op := Go.Op.fieldAddr 53 (Go.Operand.tmp 60) 0, type := 0, pos := "trie.go:100", after := #[{ on := 2, ground := Go.Ground.data }], guard := none } : Oper)
def oTgLook24 : Oper := ({ dst := some 62, op := Go.Op.load 49 (Go.Operand.tmp 61), type := 49, pos := "trie.go:100", after := #[{ on := 3, ground := Go.Ground.data }], guard := none } : Oper)
def oTgLook25 : Oper := ({ dst := some 63, op := Go.Op.lookup 49 (Go.Operand.tmp 62) (Go.Operand.const (Go.Value.string { data := #[43] })) false, type := 57, pos := "trie.go:100", after := #[{ on := 4, ground := Go.Ground.data }], guard := none } : Oper)
def oTgLook26 : Oper := ({ dst := some 64, op := Go.Op.move (Go.Operand.tmp 1), type := 3, pos := "trie.go:100", after := #[], guard := none } : Oper)
def oTgLook27 : Oper := ({ dst := some 65, op := Go.Op.binOp Go.BinOp.add 3 (Go.Operand.tmp 64) (Go.Operand.const (Go.Value.int Go.IntKind.i64 1)) 3, type := 3, pos := "trie.go:100", after := #[{ on := 6, ground := Go.Ground.data }], guard := none } : Oper)
def oTgLook28 : Oper := ({ dst := some 66, op := Go.Op.call { callee := Go.Callee.value (Go.Operand.tmp 58), args := #[Go.Operand.tmp 63, Go.Operand.tmp 65], argTypes := #[57, 3] }, type := 0, pos := "trie.go:100", after := #[{ on := 0, ground := Go.Ground.data }, { on := 5, ground := Go.Ground.data }, { on := 7, ground := Go.Ground.data }], guard := none } : Oper)
def oTgLook29 : Oper := ({ dst := some 28, op := Go.Op.load 51 (Go.Operand.tmp 3), type := 51, pos := "trie.go:92", after := #[], guard := none } : Oper)
def oTgLook30 : Oper := ({ dst := some 29, op := Go.Op.move (Go.Operand.tmp 9), type := 57, pos := "trie.go:92", after := #[], guard := none } : Oper)
def oTgLook31 : Oper := ({ dst := some 30, op := Go.Op.nilCheck (Go.Operand.tmp 29), type := 0, pos := "trie.go:92", after := #[{ on := 1, ground := Go.Ground.data }], guard := none } : Oper)
def oTgLook32 : Oper := ({ dst := some 31, op := Go.Op.fieldAddr 53 (Go.Operand.tmp 30) 1, type := 0, pos := "trie.go:92", after := #[{ on := 2, ground := Go.Ground.data }], guard := none } : Oper)
def oTgLook33 : Oper := ({ dst := some 32, op := Go.Op.load 51 (Go.Operand.tmp 31), type := 51, pos := "trie.go:92", after := #[{ on := 3, ground := Go.Ground.data }], guard := none } : Oper)
def oTgLook34 : Oper := ({ dst := some 33, op := Go.Op.call { callee := Go.Callee.value (Go.Operand.func 44), args := #[Go.Operand.tmp 28, Go.Operand.tmp 32], argTypes := #[51, 51] }, type := 0, pos := "trie.go:92", after := #[{ on := 0, ground := Go.Ground.data }, { on := 4, ground := Go.Ground.data }], guard := none } : Oper)
end
open Go.RowKit Go.Maps

section
variable {w w' : World} {t : Nat} {G : TG} {h ii : Int} {s : List UInt8 → Prop}
theorem cm_no_cell {m : Nat} (hC : CM w m s) (j : Nat) : w.cell? ⟨m, j, none⟩ = none := by
  obtain ⟨D, ⟨es, cl, he, _⟩, _⟩ := hC
  simp [World.cell?, he]
/-- What the closure has captured. -/
def LkK (ns : Pth) (hid : Bool) (bd p6 p7 p5 p8 : Nat) (wr : World) : Prop :=
  ∃ gl cl, wr.cell? ⟨p6, 0, none⟩ = some (.bool hid) ∧ wr.cell? ⟨p7, 0, none⟩ = some (.map (some bd)) ∧ wr.cell? ⟨p5, 0, none⟩ = some (.slice (some ⟨gl, 0, none⟩) ns.length cl) ∧
    wr.cell? ⟨p8, 0, none⟩ = some (.func (.func 43) #[] #[.pointer (some ⟨p6, 0, none⟩), .pointer (some ⟨p7, 0, none⟩), .pointer (some ⟨p5, 0, none⟩), .pointer (some ⟨p8, 0, none⟩)]) ∧ Strs wr (some ⟨gl, 0, none⟩) ns.length ns
theorem LkK.outs {ns : Pth} {hid : Bool} {bd p6 p7 p5 p8 : Nat} (hK : LkK ns hid bd p6 p7 p5 p8 w) (hC : CM w bd s) (hU : Outs w w' (fun x => x = bd)) (hn : 0 < ns.length) : LkK ns hid bd p6 p7 p5 p8 w' := by
  have hne : ∀ (b j : Nat) (v : Value), w.cell? ⟨b, j, none⟩ = some v → ¬ b = bd := fun b j v hv e => by
    subst e
    rw [cm_no_cell hC] at hv; cases hv
  obtain ⟨gl, cl, k1, k2, k3, k4, k5⟩ := hK
  refine ⟨gl, cl, hU.cell _ _ k1 (hne _ _ _ k1), hU.cell _ _ k2 (hne _ _ _ k2), hU.cell _ _ k3 (hne _ _ _ k3), hU.cell _ _ k4 (hne _ _ _ k4), k5.outs hU (fun b o e => ?_)⟩
  cases e
  obtain ⟨b, o, x, e, _, hc⟩ := k5.at_ hn
  cases e
  exact hne _ _ _ hc
theorem LkK.below {ns : Pth} {hid : Bool} {bd p6 p7 p5 p8 : Nat} (hK : LkK ns hid bd p6 p7 p5 p8 w) (hb : Below w.heap.size w w') : LkK ns hid bd p6 p7 p5 p8 w' := by
  obtain ⟨gl, cl, k1, k2, k3, k4, k5⟩ := hK
  exact ⟨gl, cl, (hb.cell (World.block_lt_of_cell? _ _ k1)).trans k1, (hb.cell (World.block_lt_of_cell? _ _ k2)).trans k2, (hb.cell (World.block_lt_of_cell? _ _ k3)).trans k3, (hb.cell (World.block_lt_of_cell? _ _ k4)).trans k4, k5.below hb⟩
theorem CM.below {m : Nat} (hC : CM w m s) (hb : Below w.heap.size w w') : CM w' m s := hC.keep (hb.block _ hC.lt)
def LkQ (w : World) (bd : Nat) (s : List UInt8 → Prop) (P : List UInt8 → Prop) (e : Ending) (w' : World) : Prop := e = .returned (.tuple #[]) ∧ CM w' bd (fun c => s c ∨ P c) ∧ Outs w w' (fun x => x = bd)
def MbC (mb : Bool) (Q : Prop) : Prop := mb = true ∧ Q
theorem sx_iff {s sx Q : List UInt8 → Prop} (h : sx = s) (hn : ∀ c, ¬ Q c) : Hid (∀ c, sx c ↔ s c ∨ Q c) := fun c => by rw [h]; exact ⟨Or.inl, fun h => h.elim id (fun h => absurd h (hn c))⟩
def LkIH (G : TG) (t : Nat) (h ii : Int) (ns : Pth) (hid : Bool) (bd p6 p7 p5 p8 : Nat) (ks : List (List UInt8)) (m : Nat) : Prop :=
  ∀ (i : Nat) (z : Int) (p : Pth) (v : Value) (w : World) (s : List UInt8 → Prop), z = (i : Int) → ns.length ≤ i + m → i ≤ ns.length → ptrO (G.bl 0 p) = v → TR w t G h ii → LkK ns hid bd p6 p7 p5 p8 w → CM w bd s → (∀ c, s c → c ∈ ks) →
      Calls Tryz.prog 43 #[v, .int .i64 z, .pointer (some ⟨p6, 0, none⟩), .pointer (some ⟨p7, 0, none⟩), .pointer (some ⟨p5, 0, none⟩), .pointer (some ⟨p8, 0, none⟩)] w fun e w' => LkQ w bd s (LkP G.cl hid ns p i) e w'
set_option maxHeartbeats 8000000 in
set_option maxRecDepth 100000 in
theorem look_one (ns : Pth) (hid : Bool) (bd p6 p7 p5 p8 : Nat) (ks : List (List UInt8)) (hkl : ks.length ≤ 1000000) (hkc : ∀ q c, G.cl q c → c ∈ ks) (hfit : ∀ q c, G.cl q c → fitL q = true) (hpl : ∀ x ∈ ns, plB x = true) (hnl : Hid (∀ x ∈ ns, x.length ≤ 1000)) (hn0 : 0 < ns.length) (hn1 : ns.length ≤ 1000) (hbd : ¬ G.F bd) (m : Nat)
    (ih : ∀ m', m' + 1 = m → LkIH G t h ii ns hid bd p6 p7 p5 p8 ks m') : LkIH G t h ii ns hid bd p6 p7 p5 p8 ks m := by
  intro i z p v w s hz hm hi hv hT hK hC hks
  subst hz
  cases hb : G.bl 0 p with
  | none =>
    rw [hb] at hv
    change Value.pointer none = v at hv
    subst hv
    have HC := Lib.hid hC
    have HN : Hid (∀ c, ¬ LkP G.cl hid ns p i c) := fun c ⟨r, hr, _⟩ => by
      have h1 : G.bl 0 (p ++ r) ≠ none := fun e => hT.no_cl e c hr
      exact hT.pre p r h1 hb
    clear hT hK hC ih
    go_enter Tryz.func43, Tryz.ntmps43
    go_wp2_with fail
    (first | go_end0 | refine bodyPost_ret (results_none rfl _ _ _) rfl ?_)
    exact ⟨rfl, HC.out.congr fun c => ⟨Or.inl, fun h => h.elim id (fun h => absurd h (HN.out c))⟩, Outs.refl _ _⟩
  | some b =>
    rw [hb] at hv
    change Value.pointer (some ⟨b, 0, none⟩) = v at hv
    subst hv
    obtain ⟨mb, hmb⟩ : ∃ mb, mb = (decide (0 < i) || !hid) := ⟨_, rfl⟩
    have ih := Lib.hid ih
    have HMB := Lib.hid hmb
    obtain ⟨gl0, cl0, k60, _, _, _, _⟩ := id hK
    obtain ⟨c00, _, _⟩ := hT.cell p b hb
    obtain ⟨v35, hv35⟩ : ∃ v35, ptrO (G.bl 0 (p ++ [[35]])) = v35 := ⟨_, rfl⟩
    have hl35 := (hT.kids p).look (l := [35]) (by unfold maxLen; simp) hv35
    have HT := Lib.hid hT
    have HK := Lib.hid hK
    have HC := Lib.hid hC
    clear hT hK hC hmb
    go_enter Tryz.func43, Tryz.ntmps43
    go_upto_region 1 with fail
    go_cut [8] from 10 (fun s8 wx => s8 = .bool mb ∧ wx = w)
    case first =>
      by_cases h0 : i = 0
      · subst h0
        cases hid with
        | true =>
          go_wp2_with fail
          go_meet
          case rel => exact ⟨by rw [HMB.out]; rfl, rfl⟩
        | false =>
          go_wp2_with fail
          go_meet
          case rel => exact ⟨by rw [HMB.out]; rfl, rfl⟩
      · have h1 : (0 : Int) < (i : Int) := by omega
        have h2 : mb = true := by rw [HMB.out]; simp; omega
        clear k60
        go_wp2_with fail
        go_meet
        case rel => exact ⟨by rw [h2], rfl⟩
    obtain ⟨rfl, hwc⟩ := hcut
    rw [← hwc] at hl35 c00 HT HK HC
    have HUC : Hid (Outs w wc (fun x => x = bd)) := by rw [hwc]; exact Outs.refl _ _
    clear hwc k60
    obtain ⟨mq, hmq⟩ : ∃ mq, mq = mb := ⟨_, rfl⟩
    rw [← hmq] at HMB ⊢
    clear hmq mb
    cases h35 : G.bl 0 (p ++ [[35]]) with
    | none =>
      obtain rfl : v35 = .pointer none := by rw [← hv35, h35]; rfl
      have HNX : Hid (∀ c, ¬ MbC mq (G.cl (p ++ [[35]]) c)) := fun c hc => HT.out.no_cl h35 c hc.2
      clear hv35 h35
      cases mq with
      | true =>
        obtain ⟨wx, hwx⟩ : ∃ wx, wx = wc := ⟨_, rfl⟩
        obtain ⟨sx, hsx⟩ : ∃ sx, sx = s := ⟨_, rfl⟩
        rw [← hwx] at hl35 c00 HT HK HC HUC ⊢
        rw [← hsx] at HC hks
        have HTX := HT
        have HKX2 := HK
        have HUX := HUC
        have HCX := HC
        have HKX := Lib.hid hks
        have HSX := sx_iff hsx HNX.out
        clear hwx hsx HT HK HC HUC hks HNX
        obtain ⟨gl, cl, k6, k7, k5, k8, k9⟩ := HKX2.out
        obtain ⟨c0, c1, _⟩ := HTX.out.cell p b hb
        by_cases hie : i = ns.length
        · skip
          have hd5 : ((i : Int) == (ns.length : Int)) = true := by rw [hie]; simp
          go_wp2_with fail
          have hHeld : Below wx.heap.size wx wx.drew := (Below.refl _ _).drew
          refine region_last (S := (fun w' => Below wx.heap.size wx w')) (m := 5) (by kernel_rfl) ?_
          have hLast : LastL .any _ 5 := last_chain (ops := #[oTgLook1, oTgLook2, oTgLook3, oTgLook4, oTgLook5, oTgLook6]) [(0, 5), (4, 5), (3, 4), (2, 3), (1, 2)] (by kernel_rfl)
          refine tkM hLast 0 oTgLook1 ?vv18_85_0 rfl (by kernel_rfl) (by kernel_rfl) (by kernel_rfl) (by rfl) (fun _ _ _ h => h) (by rfl) ?hy18_85_0 (by assumption) ?rest18_85_0
          case hy18_85_0 => (intro w hSw; unfold oTgLook1; (try dsimp only at hSw); have q := (hSw.cell (World.block_lt_of_cell? _ _ k7)).trans k7; clear hSw; go_simp; all_goals with_reducible rfl)
          try simp only [oTgLook1, Act.put, sA, sB, sC]
          refine tkM hLast 1 oTgLook2 ?vv18_86_1 rfl (by kernel_rfl) (by kernel_rfl) (by kernel_rfl) (by rfl) (fun _ _ _ h => h) (by rfl) ?hy18_86_1 (by assumption) ?rest18_86_1
          case hy18_86_1 => (intro w hSw; unfold oTgLook2; (try dsimp only at hSw); (try go_split_ands); go_simp; all_goals with_reducible rfl)
          try simp only [oTgLook2, Act.put, sA, sB, sC]
          refine tkM hLast 2 oTgLook3 ?vv18_86_2 rfl (by kernel_rfl) (by kernel_rfl) (by kernel_rfl) (by rfl) (fun _ _ _ h => h) (by rfl) ?hy18_86_2 (by assumption) ?rest18_86_2
          case hy18_86_2 => (intro w hSw; unfold oTgLook3; (try dsimp only at hSw); (try go_split_ands); go_simp; all_goals with_reducible rfl)
          try simp only [oTgLook3, Act.put, sA, sB, sC]
          refine tkM hLast 3 oTgLook4 ?vv18_86_3 rfl (by kernel_rfl) (by kernel_rfl) (by kernel_rfl) (by rfl) (fun _ _ _ h => h) (by rfl) ?hy18_86_3 (by assumption) ?rest18_86_3
          case hy18_86_3 => (intro w hSw; unfold oTgLook4; (try dsimp only at hSw); (try go_split_ands); go_simp; all_goals with_reducible rfl)
          try simp only [oTgLook4, Act.put, sA, sB, sC]
          refine tkM hLast 4 oTgLook5 ?vv18_87_4 rfl (by kernel_rfl) (by kernel_rfl) (by kernel_rfl) (by rfl) (fun _ _ _ h => h) (by rfl) ?hy18_87_4 (by assumption) ?rest18_87_4
          case hy18_87_4 => (intro w hSw; unfold oTgLook5; (try dsimp only at hSw); have q := (hSw.cell (World.block_lt_of_cell? _ _ c1)).trans c1; clear hSw; go_simp; all_goals with_reducible rfl)
          try simp only [oTgLook5, Act.put, sA, sB, sC]
          refine anyM_ready (rs := [5]) (by kernel_rfl) (by simp) ?_
          refine (AllM.cons (o := oTgLook6) rfl (fun K hK => ?_) AllM.nil)
          unfold oTgLook6
          go_simp
          (go_at_call 44; refine (copy_any bd (G.bl 2 p) sx (G.cl p) (HCX.out.below hHeld) ((HTX.out.below hHeld).clis p) (fun e => hbd ⟨2, p, e⟩) ks HKX.out (fun c hc => hkc p c hc) hkl).mono ?_; rintro e w6 ⟨rfl, hC6, hU6⟩)
          refine hK.out _ _ (fun hne => absurd rfl hne) ?_
          clear hK K
          try simp only [oTgLook6, Act.put, sA, sB, sC]
          refine anyM_done (by kernel_rfl) ?_ _
          have hU7 : Outs wx w6 (fun x => x = bd) := (Outs.of_below hHeld).trans hU6 (fun _ _ h => h)
          have HC7 := Lib.hid hC6
          have HU7 := Lib.hid hU7
          clear hC6 hU6 hU7 hHeld
          go_wp2_with fail
          (first | go_end0 | refine bodyPost_ret (results_none rfl _ _ _) rfl ?_)
          refine ⟨rfl, HC7.out.congr fun c => ?_, HUX.out.trans HU7.out (fun _ _ h => h)⟩
          rw [lk_end hfit p i hie c _ HMB.out, HSX.out]
          exact ⟨fun h => h.elim (fun h => h.elim Or.inl (fun h => Or.inr (Or.inr h))) (fun h => Or.inr (Or.inl h)), fun h => h.elim (fun h => Or.inl (Or.inl h)) (fun h => h.elim Or.inr (fun h => Or.inl (Or.inr h)))⟩
        · skip
          have hd5 : ((i : Int) == (ns.length : Int)) = false := by simp; omega
          obtain ⟨y, hy⟩ : ∃ y, ns[i]? = some y := ⟨ns[i], List.getElem?_eq_getElem (by omega)⟩
          obtain ⟨_, _, y2, e9, hy2, hyc⟩ := k9.at_ (k := i) (by omega)
          cases e9
          rw [hy] at hy2
          cases hy2
          rw [Nat.zero_add] at hyc
          have hyl := hnl.out y (List.mem_of_getElem? hy)
          have HY := Lib.hid hy
          have hiI : (i : Int) < (ns.length : Int) := by omega
          have hi0 : (0 : Int) ≤ (i : Int) := by omega
          have hw1 : IntKind.i64.wrap ((i : Int) + 1) = (i : Int) + 1 := IntWalk.i64_in _ (by omega)
          obtain ⟨vy, hvy⟩ : ∃ vy, ptrO (G.bl 0 (p ++ [y])) = vy := ⟨_, rfl⟩
          have HVY := Lib.hid hvy
          obtain ⟨m', hm'⟩ : ∃ m', m' + 1 = m := ⟨m - 1, by omega⟩
          clear hy hvy
          go_wp2_with fail
          have hHeld : Below wx.heap.size wx wx.drew := (Below.refl _ _).drew
          refine region_last (S := (fun w' => Below wx.heap.size wx w')) (m := 12) (by kernel_rfl) ?_
          have hLast : LastL .any _ 12 := last_chain (ops := #[oTgLook7, oTgLook8, oTgLook9, oTgLook10, oTgLook11, oTgLook12, oTgLook13, oTgLook14, oTgLook15, oTgLook16, oTgLook17, oTgLook18, oTgLook19]) [(0, 12), (9, 12), (4, 9), (3, 4), (2, 3), (1, 2), (8, 9), (7, 8), (5, 7), (6, 7), (11, 12), (10, 11)] (by kernel_rfl)
          refine tkM hLast 0 oTgLook7 ?vv19_88_0 rfl (by kernel_rfl) (by kernel_rfl) (by kernel_rfl) (by rfl) (fun _ _ _ h => h) (by rfl) ?hy19_88_0 (by assumption) ?rest19_88_0
          case hy19_88_0 => (intro w hSw; unfold oTgLook7; (try dsimp only at hSw); have q := (hSw.cell (World.block_lt_of_cell? _ _ k8)).trans k8; clear hSw; go_simp; all_goals with_reducible rfl)
          try simp only [oTgLook7, Act.put, sA, sB, sC]
          refine tkM hLast 1 oTgLook8 ?vv19_89_1 rfl (by kernel_rfl) (by kernel_rfl) (by kernel_rfl) (by rfl) (fun _ _ _ h => h) (by rfl) ?hy19_89_1 (by assumption) ?rest19_89_1
          case hy19_89_1 => (intro w hSw; unfold oTgLook8; (try dsimp only at hSw); (try go_split_ands); go_simp; all_goals with_reducible rfl)
          try simp only [oTgLook8, Act.put, sA, sB, sC]
          refine tkM hLast 2 oTgLook9 ?vv19_89_2 rfl (by kernel_rfl) (by kernel_rfl) (by kernel_rfl) (by rfl) (fun _ _ _ h => h) (by rfl) ?hy19_89_2 (by assumption) ?rest19_89_2
          case hy19_89_2 => (intro w hSw; unfold oTgLook9; (try dsimp only at hSw); (try go_split_ands); go_simp; all_goals with_reducible rfl)
          try simp only [oTgLook9, Act.put, sA, sB, sC]
          refine tkM hLast 3 oTgLook10 ?vv19_89_3 rfl (by kernel_rfl) (by kernel_rfl) (by kernel_rfl) (by rfl) (fun _ _ _ h => h) (by rfl) ?hy19_89_3 (by assumption) ?rest19_89_3
          case hy19_89_3 => (intro w hSw; unfold oTgLook10; (try dsimp only at hSw); (try go_split_ands); go_simp; all_goals with_reducible rfl)
          try simp only [oTgLook10, Act.put, sA, sB, sC]
          refine tkM hLast 4 oTgLook11 ?vv19_90_4 rfl (by kernel_rfl) (by kernel_rfl) (by kernel_rfl) (by rfl) (fun _ _ _ h => h) (by rfl) ?hy19_90_4 (by assumption) ?rest19_90_4
          case hy19_90_4 => (intro w hSw; unfold oTgLook11; (try dsimp only at hSw); have q := (hSw.cell (World.block_lt_of_cell? _ _ c0)).trans c0; clear hSw; go_simp; all_goals with_reducible rfl)
          try simp only [oTgLook11, Act.put, sA, sB, sC]
          refine tkM hLast 5 oTgLook12 ?vv19_91_5 rfl (by kernel_rfl) (by kernel_rfl) (by kernel_rfl) (by rfl) (fun _ _ _ h => h) (by rfl) ?hy19_91_5 (by assumption) ?rest19_91_5
          case hy19_91_5 => (intro w hSw; unfold oTgLook12; (try dsimp only at hSw); have q := (hSw.cell (World.block_lt_of_cell? _ _ k5)).trans k5; clear hSw; go_simp; all_goals with_reducible rfl)
          try simp only [oTgLook12, Act.put, sA, sB, sC]
          refine tkM hLast 6 oTgLook13 ?vv19_92_6 rfl (by kernel_rfl) (by kernel_rfl) (by kernel_rfl) (by rfl) (fun _ _ _ h => h) (by rfl) ?hy19_92_6 (by assumption) ?rest19_92_6
          case hy19_92_6 => (intro w hSw; unfold oTgLook13; (try dsimp only at hSw); (try go_split_ands); go_simp; all_goals with_reducible rfl)
          try simp only [oTgLook13, Act.put, sA, sB, sC]
          refine tkM hLast 7 oTgLook14 ?vv19_92_7 rfl (by kernel_rfl) (by kernel_rfl) (by kernel_rfl) (by rfl) (fun _ _ _ h => h) (by rfl) ?hy19_92_7 (by assumption) ?rest19_92_7
          case hy19_92_7 => (intro w hSw; unfold oTgLook14; (try dsimp only at hSw); (try go_split_ands); go_simp; all_goals with_reducible rfl)
          try simp only [oTgLook14, Act.put, sA, sB, sC]
          refine tkM hLast 8 oTgLook15 ?vv19_93_8 rfl (by kernel_rfl) (by kernel_rfl) (by kernel_rfl) (by rfl) (fun _ _ _ h => h) (by rfl) ?hy19_93_8 (by assumption) ?rest19_93_8
          case hy19_93_8 => (intro w hSw; unfold oTgLook15; (try dsimp only at hSw); have q := (hSw.cell (World.block_lt_of_cell? _ _ hyc)).trans hyc; clear hSw; go_simp; all_goals with_reducible rfl)
          try simp only [oTgLook15, Act.put, sA, sB, sC]
          refine tkM hLast 9 oTgLook16 ?vv19_94_9 rfl (by kernel_rfl) (by kernel_rfl) (by kernel_rfl) (by rfl) (fun _ _ _ h => h) (by rfl) ?hy19_94_9 (by assumption) ?rest19_94_9
          case hy19_94_9 => (intro w hSw; unfold oTgLook16; (try dsimp only at hSw); have q := ((HTX.out.below hSw).kids p).look (l := y) (by unfold maxLen; omega) HVY.out; clear hSw; go_simp; all_goals with_reducible rfl)
          try simp only [oTgLook16, Act.put, sA, sB, sC]
          refine tkM hLast 10 oTgLook17 ?vv19_95_10 rfl (by kernel_rfl) (by kernel_rfl) (by kernel_rfl) (by rfl) (fun _ _ _ h => h) (by rfl) ?hy19_95_10 (by assumption) ?rest19_95_10
          case hy19_95_10 => (intro w hSw; unfold oTgLook17; (try dsimp only at hSw); (try go_split_ands); go_simp; all_goals with_reducible rfl)
          try simp only [oTgLook17, Act.put, sA, sB, sC]
          refine tkM hLast 11 oTgLook18 ?vv19_95_11 rfl (by kernel_rfl) (by kernel_rfl) (by kernel_rfl) (by rfl) (fun _ _ _ h => h) (by rfl) ?hy19_95_11 (by assumption) ?rest19_95_11
          case hy19_95_11 => (intro w hSw; unfold oTgLook18; (try dsimp only at hSw); (try go_split_ands); go_simp; all_goals with_reducible rfl)
          try simp only [oTgLook18, Act.put, sA, sB, sC]
          refine anyM_ready (rs := [12]) (by kernel_rfl) (by simp) ?_
          refine (AllM.cons (o := oTgLook19) rfl (fun K hK => ?_) AllM.nil)
          unfold oTgLook19
          go_simp
          (go_at_call 43; refine (ih.out m' hm' (i + 1) _ (p ++ [y]) vy _ sx (by omega) (by omega) (by omega) HVY.out (HTX.out.below hHeld) (HKX2.out.below hHeld) (HCX.out.below hHeld) HKX.out).mono ?_; rintro e w6 ⟨rfl, hC6, hU6⟩)
          refine hK.out _ _ (fun hne => absurd rfl hne) ?_
          clear hK K
          try simp only [oTgLook19, Act.put, sA, sB, sC]
          refine anyM_done (by kernel_rfl) ?_ _
          have hU7 : Outs wx w6 (fun x => x = bd) := (Outs.of_below hHeld).trans hU6 (fun _ _ h => h)
          have HC7 := Lib.hid hC6
          have HU7 := Lib.hid hU7
          have HT7 : Hid (TR w6 t G h ii) := HTX.out.outs HU7.out (fun b e hf => hbd (e ▸ hf))
          have HK7 : Hid (LkK ns hid bd p6 p7 p5 p8 w6) := HKX2.out.outs HCX.out HU7.out hn0
          have HKS7 : Hid (∀ c, (sx c ∨ LkP G.cl hid ns (p ++ [y]) (i + 1) c) → c ∈ ks) := fun c hc => hc.elim (HKX.out c) (fun ⟨r, hr, _⟩ => hkc _ c hr)
          obtain ⟨gl7, cl7, k67, k77, k57, k87, k97⟩ := HK7.out
          obtain ⟨c07, c17, _⟩ := HT7.out.cell p b hb
          obtain ⟨vp, hvp⟩ : ∃ vp, ptrO (G.bl 0 (p ++ [[43]])) = vp := ⟨_, rfl⟩
          have HVP := Lib.hid hvp
          clear hC6 hU6 hU7 hHeld hyc hvp k6 k7 k5 k8 k9 c0 c1
          go_wp2_with fail
          have hHeld : Below w6.heap.size w6 w6.drew := (Below.refl _ _).drew
          refine region_last (S := (fun w' => Below w6.heap.size w6 w')) (m := 8) (by kernel_rfl) ?_
          have hLast : LastL .any _ 8 := last_chain (ops := #[oTgLook20, oTgLook21, oTgLook22, oTgLook23, oTgLook24, oTgLook25, oTgLook26, oTgLook27, oTgLook28]) [(0, 8), (5, 8), (4, 5), (3, 4), (2, 3), (1, 2), (7, 8), (6, 7)] (by kernel_rfl)
          refine tkM hLast 0 oTgLook20 ?vv20_96_0 rfl (by kernel_rfl) (by kernel_rfl) (by kernel_rfl) (by rfl) (fun _ _ _ h => h) (by rfl) ?hy20_96_0 (by assumption) ?rest20_96_0
          case hy20_96_0 => (intro w hSw; unfold oTgLook20; (try dsimp only at hSw); have q := (hSw.cell (World.block_lt_of_cell? _ _ k87)).trans k87; clear hSw; go_simp; all_goals with_reducible rfl)
          try simp only [oTgLook20, Act.put, sA, sB, sC]
          refine tkM hLast 1 oTgLook21 ?vv20_97_1 rfl (by kernel_rfl) (by kernel_rfl) (by kernel_rfl) (by rfl) (fun _ _ _ h => h) (by rfl) ?hy20_97_1 (by assumption) ?rest20_97_1
          case hy20_97_1 => (intro w hSw; unfold oTgLook21; (try dsimp only at hSw); (try go_split_ands); go_simp; all_goals with_reducible rfl)
          try simp only [oTgLook21, Act.put, sA, sB, sC]
          refine tkM hLast 2 oTgLook22 ?vv20_97_2 rfl (by kernel_rfl) (by kernel_rfl) (by kernel_rfl) (by rfl) (fun _ _ _ h => h) (by rfl) ?hy20_97_2 (by assumption) ?rest20_97_2
          case hy20_97_2 => (intro w hSw; unfold oTgLook22; (try dsimp only at hSw); (try go_split_ands); go_simp; all_goals with_reducible rfl)
          try simp only [oTgLook22, Act.put, sA, sB, sC]
          refine tkM hLast 3 oTgLook23 ?vv20_97_3 rfl (by kernel_rfl) (by kernel_rfl) (by kernel_rfl) (by rfl) (fun _ _ _ h => h) (by rfl) ?hy20_97_3 (by assumption) ?rest20_97_3
          case hy20_97_3 => (intro w hSw; unfold oTgLook23; (try dsimp only at hSw); (try go_split_ands); go_simp; all_goals with_reducible rfl)
          try simp only [oTgLook23, Act.put, sA, sB, sC]
          refine tkM hLast 4 oTgLook24 ?vv20_98_4 rfl (by kernel_rfl) (by kernel_rfl) (by kernel_rfl) (by rfl) (fun _ _ _ h => h) (by rfl) ?hy20_98_4 (by assumption) ?rest20_98_4
          case hy20_98_4 => (intro w hSw; unfold oTgLook24; (try dsimp only at hSw); have q := (hSw.cell (World.block_lt_of_cell? _ _ c07)).trans c07; clear hSw; go_simp; all_goals with_reducible rfl)
          try simp only [oTgLook24, Act.put, sA, sB, sC]
          refine tkM hLast 5 oTgLook25 ?vv20_99_5 rfl (by kernel_rfl) (by kernel_rfl) (by kernel_rfl) (by rfl) (fun _ _ _ h => h) (by rfl) ?hy20_99_5 (by assumption) ?rest20_99_5
          case hy20_99_5 => (intro w hSw; unfold oTgLook25; (try dsimp only at hSw); have q := ((HT7.out.below hSw).kids p).look (l := [43]) (by unfold maxLen; simp) HVP.out; clear hSw; go_simp; all_goals with_reducible rfl)
          try simp only [oTgLook25, Act.put, sA, sB, sC]
          refine tkM hLast 6 oTgLook26 ?vv20_100_6 rfl (by kernel_rfl) (by kernel_rfl) (by kernel_rfl) (by rfl) (fun _ _ _ h => h) (by rfl) ?hy20_100_6 (by assumption) ?rest20_100_6
          case hy20_100_6 => (intro w hSw; unfold oTgLook26; (try dsimp only at hSw); (try go_split_ands); go_simp; all_goals with_reducible rfl)
          try simp only [oTgLook26, Act.put, sA, sB, sC]
          refine tkM hLast 7 oTgLook27 ?vv20_100_7 rfl (by kernel_rfl) (by kernel_rfl) (by kernel_rfl) (by rfl) (fun _ _ _ h => h) (by rfl) ?hy20_100_7 (by assumption) ?rest20_100_7
          case hy20_100_7 => (intro w hSw; unfold oTgLook27; (try dsimp only at hSw); (try go_split_ands); go_simp; all_goals with_reducible rfl)
          try simp only [oTgLook27, Act.put, sA, sB, sC]
          refine anyM_ready (rs := [8]) (by kernel_rfl) (by simp) ?_
          refine (AllM.cons (o := oTgLook28) rfl (fun K hK => ?_) AllM.nil)
          unfold oTgLook28
          go_simp
          (go_at_call 43; refine (ih.out m' hm' (i + 1) _ (p ++ [[43]]) vp _ _ (by omega) (by omega) (by omega) HVP.out (HT7.out.below hHeld) (HK7.out.below hHeld) (HC7.out.below hHeld) HKS7.out).mono ?_; rintro e w9 ⟨rfl, hC9, hU9⟩)
          refine hK.out _ _ (fun hne => absurd rfl hne) ?_
          clear hK K
          try simp only [oTgLook28, Act.put, sA, sB, sC]
          refine anyM_done (by kernel_rfl) ?_ _
          have hU8 : Outs w6 w9 (fun x => x = bd) := (Outs.of_below hHeld).trans hU9 (fun _ _ h => h)
          have HC8 := Lib.hid hC9
          have HU8 := Lib.hid hU8
          clear hC9 hU9 hU8 hHeld
          go_wp2_with fail
          (first | go_end0 | refine bodyPost_ret (results_none rfl _ _ _) rfl ?_)
          refine ⟨rfl, HC8.out.congr fun c => ?_, (HUX.out.trans HU7.out (fun _ _ h => h)).trans HU8.out (fun _ _ h => h)⟩
          rw [lk_step hfit hpl p i y HY.out c true HMB.out, HSX.out]
          simp [MbC, or_assoc]
      | false =>
        obtain ⟨wx, hwx⟩ : ∃ wx, wx = wc := ⟨_, rfl⟩
        obtain ⟨sx, hsx⟩ : ∃ sx, sx = s := ⟨_, rfl⟩
        rw [← hwx] at hl35 c00 HT HK HC HUC ⊢
        rw [← hsx] at HC hks
        have HTX := HT
        have HKX2 := HK
        have HUX := HUC
        have HCX := HC
        have HKX := Lib.hid hks
        have HSX := sx_iff hsx HNX.out
        clear hwx hsx HT HK HC HUC hks HNX
        obtain ⟨gl, cl, k6, k7, k5, k8, k9⟩ := HKX2.out
        obtain ⟨c0, c1, _⟩ := HTX.out.cell p b hb
        by_cases hie : i = ns.length
        · skip
          have hd5 : ((i : Int) == (ns.length : Int)) = true := by rw [hie]; simp
          go_wp2_with fail
          have hHeld : Below wx.heap.size wx wx.drew := (Below.refl _ _).drew
          refine region_last (S := (fun w' => Below wx.heap.size wx w')) (m := 5) (by kernel_rfl) ?_
          have hLast : LastL .any _ 5 := last_chain (ops := #[oTgLook1, oTgLook2, oTgLook3, oTgLook4, oTgLook5, oTgLook6]) [(0, 5), (4, 5), (3, 4), (2, 3), (1, 2)] (by kernel_rfl)
          refine tkM hLast 0 oTgLook1 ?vv21_101_0 rfl (by kernel_rfl) (by kernel_rfl) (by kernel_rfl) (by rfl) (fun _ _ _ h => h) (by rfl) ?hy21_101_0 (by assumption) ?rest21_101_0
          case hy21_101_0 => (intro w hSw; unfold oTgLook1; (try dsimp only at hSw); have q := (hSw.cell (World.block_lt_of_cell? _ _ k7)).trans k7; clear hSw; go_simp; all_goals with_reducible rfl)
          try simp only [oTgLook1, Act.put, sA, sB, sC]
          refine tkM hLast 1 oTgLook2 ?vv21_102_1 rfl (by kernel_rfl) (by kernel_rfl) (by kernel_rfl) (by rfl) (fun _ _ _ h => h) (by rfl) ?hy21_102_1 (by assumption) ?rest21_102_1
          case hy21_102_1 => (intro w hSw; unfold oTgLook2; (try dsimp only at hSw); (try go_split_ands); go_simp; all_goals with_reducible rfl)
          try simp only [oTgLook2, Act.put, sA, sB, sC]
          refine tkM hLast 2 oTgLook3 ?vv21_102_2 rfl (by kernel_rfl) (by kernel_rfl) (by kernel_rfl) (by rfl) (fun _ _ _ h => h) (by rfl) ?hy21_102_2 (by assumption) ?rest21_102_2
          case hy21_102_2 => (intro w hSw; unfold oTgLook3; (try dsimp only at hSw); (try go_split_ands); go_simp; all_goals with_reducible rfl)
          try simp only [oTgLook3, Act.put, sA, sB, sC]
          refine tkM hLast 3 oTgLook4 ?vv21_102_3 rfl (by kernel_rfl) (by kernel_rfl) (by kernel_rfl) (by rfl) (fun _ _ _ h => h) (by rfl) ?hy21_102_3 (by assumption) ?rest21_102_3
          case hy21_102_3 => (intro w hSw; unfold oTgLook4; (try dsimp only at hSw); (try go_split_ands); go_simp; all_goals with_reducible rfl)
          try simp only [oTgLook4, Act.put, sA, sB, sC]
          refine tkM hLast 4 oTgLook5 ?vv21_103_4 rfl (by kernel_rfl) (by kernel_rfl) (by kernel_rfl) (by rfl) (fun _ _ _ h => h) (by rfl) ?hy21_103_4 (by assumption) ?rest21_103_4
          case hy21_103_4 => (intro w hSw; unfold oTgLook5; (try dsimp only at hSw); have q := (hSw.cell (World.block_lt_of_cell? _ _ c1)).trans c1; clear hSw; go_simp; all_goals with_reducible rfl)
          try simp only [oTgLook5, Act.put, sA, sB, sC]
          refine anyM_ready (rs := [5]) (by kernel_rfl) (by simp) ?_
          refine (AllM.cons (o := oTgLook6) rfl (fun K hK => ?_) AllM.nil)
          unfold oTgLook6
          go_simp
          (go_at_call 44; refine (copy_any bd (G.bl 2 p) sx (G.cl p) (HCX.out.below hHeld) ((HTX.out.below hHeld).clis p) (fun e => hbd ⟨2, p, e⟩) ks HKX.out (fun c hc => hkc p c hc) hkl).mono ?_; rintro e w6 ⟨rfl, hC6, hU6⟩)
          refine hK.out _ _ (fun hne => absurd rfl hne) ?_
          clear hK K
          try simp only [oTgLook6, Act.put, sA, sB, sC]
          refine anyM_done (by kernel_rfl) ?_ _
          have hU7 : Outs wx w6 (fun x => x = bd) := (Outs.of_below hHeld).trans hU6 (fun _ _ h => h)
          have HC7 := Lib.hid hC6
          have HU7 := Lib.hid hU7
          clear hC6 hU6 hU7 hHeld
          go_wp2_with fail
          (first | go_end0 | refine bodyPost_ret (results_none rfl _ _ _) rfl ?_)
          refine ⟨rfl, HC7.out.congr fun c => ?_, HUX.out.trans HU7.out (fun _ _ h => h)⟩
          rw [lk_end hfit p i hie c _ HMB.out, HSX.out]
          exact ⟨fun h => h.elim (fun h => h.elim Or.inl (fun h => Or.inr (Or.inr h))) (fun h => Or.inr (Or.inl h)), fun h => h.elim (fun h => Or.inl (Or.inl h)) (fun h => h.elim Or.inr (fun h => Or.inl (Or.inr h)))⟩
        · skip
          have hd5 : ((i : Int) == (ns.length : Int)) = false := by simp; omega
          obtain ⟨y, hy⟩ : ∃ y, ns[i]? = some y := ⟨ns[i], List.getElem?_eq_getElem (by omega)⟩
          obtain ⟨_, _, y2, e9, hy2, hyc⟩ := k9.at_ (k := i) (by omega)
          cases e9
          rw [hy] at hy2
          cases hy2
          rw [Nat.zero_add] at hyc
          have hyl := hnl.out y (List.mem_of_getElem? hy)
          have HY := Lib.hid hy
          have hiI : (i : Int) < (ns.length : Int) := by omega
          have hi0 : (0 : Int) ≤ (i : Int) := by omega
          have hw1 : IntKind.i64.wrap ((i : Int) + 1) = (i : Int) + 1 := IntWalk.i64_in _ (by omega)
          obtain ⟨vy, hvy⟩ : ∃ vy, ptrO (G.bl 0 (p ++ [y])) = vy := ⟨_, rfl⟩
          have HVY := Lib.hid hvy
          obtain ⟨m', hm'⟩ : ∃ m', m' + 1 = m := ⟨m - 1, by omega⟩
          clear hy hvy
          go_wp2_with fail
          have hHeld : Below wx.heap.size wx wx.drew := (Below.refl _ _).drew
          refine region_last (S := (fun w' => Below wx.heap.size wx w')) (m := 12) (by kernel_rfl) ?_
          have hLast : LastL .any _ 12 := last_chain (ops := #[oTgLook7, oTgLook8, oTgLook9, oTgLook10, oTgLook11, oTgLook12, oTgLook13, oTgLook14, oTgLook15, oTgLook16, oTgLook17, oTgLook18, oTgLook19]) [(0, 12), (9, 12), (4, 9), (3, 4), (2, 3), (1, 2), (8, 9), (7, 8), (5, 7), (6, 7), (11, 12), (10, 11)] (by kernel_rfl)
          refine tkM hLast 0 oTgLook7 ?vv22_104_0 rfl (by kernel_rfl) (by kernel_rfl) (by kernel_rfl) (by rfl) (fun _ _ _ h => h) (by rfl) ?hy22_104_0 (by assumption) ?rest22_104_0
          case hy22_104_0 => (intro w hSw; unfold oTgLook7; (try dsimp only at hSw); have q := (hSw.cell (World.block_lt_of_cell? _ _ k8)).trans k8; clear hSw; go_simp; all_goals with_reducible rfl)
          try simp only [oTgLook7, Act.put, sA, sB, sC]
          refine tkM hLast 1 oTgLook8 ?vv22_105_1 rfl (by kernel_rfl) (by kernel_rfl) (by kernel_rfl) (by rfl) (fun _ _ _ h => h) (by rfl) ?hy22_105_1 (by assumption) ?rest22_105_1
          case hy22_105_1 => (intro w hSw; unfold oTgLook8; (try dsimp only at hSw); (try go_split_ands); go_simp; all_goals with_reducible rfl)
          try simp only [oTgLook8, Act.put, sA, sB, sC]
          refine tkM hLast 2 oTgLook9 ?vv22_105_2 rfl (by kernel_rfl) (by kernel_rfl) (by kernel_rfl) (by rfl) (fun _ _ _ h => h) (by rfl) ?hy22_105_2 (by assumption) ?rest22_105_2
          case hy22_105_2 => (intro w hSw; unfold oTgLook9; (try dsimp only at hSw); (try go_split_ands); go_simp; all_goals with_reducible rfl)
          try simp only [oTgLook9, Act.put, sA, sB, sC]
          refine tkM hLast 3 oTgLook10 ?vv22_105_3 rfl (by kernel_rfl) (by kernel_rfl) (by kernel_rfl) (by rfl) (fun _ _ _ h => h) (by rfl) ?hy22_105_3 (by assumption) ?rest22_105_3
          case hy22_105_3 => (intro w hSw; unfold oTgLook10; (try dsimp only at hSw); (try go_split_ands); go_simp; all_goals with_reducible rfl)
          try simp only [oTgLook10, Act.put, sA, sB, sC]
          refine tkM hLast 4 oTgLook11 ?vv22_106_4 rfl (by kernel_rfl) (by kernel_rfl) (by kernel_rfl) (by rfl) (fun _ _ _ h => h) (by rfl) ?hy22_106_4 (by assumption) ?rest22_106_4
          case hy22_106_4 => (intro w hSw; unfold oTgLook11; (try dsimp only at hSw); have q := (hSw.cell (World.block_lt_of_cell? _ _ c0)).trans c0; clear hSw; go_simp; all_goals with_reducible rfl)
          try simp only [oTgLook11, Act.put, sA, sB, sC]
          refine tkM hLast 5 oTgLook12 ?vv22_107_5 rfl (by kernel_rfl) (by kernel_rfl) (by kernel_rfl) (by rfl) (fun _ _ _ h => h) (by rfl) ?hy22_107_5 (by assumption) ?rest22_107_5
          case hy22_107_5 => (intro w hSw; unfold oTgLook12; (try dsimp only at hSw); have q := (hSw.cell (World.block_lt_of_cell? _ _ k5)).trans k5; clear hSw; go_simp; all_goals with_reducible rfl)
          try simp only [oTgLook12, Act.put, sA, sB, sC]
          refine tkM hLast 6 oTgLook13 ?vv22_108_6 rfl (by kernel_rfl) (by kernel_rfl) (by kernel_rfl) (by rfl) (fun _ _ _ h => h) (by rfl) ?hy22_108_6 (by assumption) ?rest22_108_6
          case hy22_108_6 => (intro w hSw; unfold oTgLook13; (try dsimp only at hSw); (try go_split_ands); go_simp; all_goals with_reducible rfl)
          try simp only [oTgLook13, Act.put, sA, sB, sC]
          refine tkM hLast 7 oTgLook14 ?vv22_108_7 rfl (by kernel_rfl) (by kernel_rfl) (by kernel_rfl) (by rfl) (fun _ _ _ h => h) (by rfl) ?hy22_108_7 (by assumption) ?rest22_108_7
          case hy22_108_7 => (intro w hSw; unfold oTgLook14; (try dsimp only at hSw); (try go_split_ands); go_simp; all_goals with_reducible rfl)
          try simp only [oTgLook14, Act.put, sA, sB, sC]
          refine tkM hLast 8 oTgLook15 ?vv22_109_8 rfl (by kernel_rfl) (by kernel_rfl) (by kernel_rfl) (by rfl) (fun _ _ _ h => h) (by rfl) ?hy22_109_8 (by assumption) ?rest22_109_8
          case hy22_109_8 => (intro w hSw; unfold oTgLook15; (try dsimp only at hSw); have q := (hSw.cell (World.block_lt_of_cell? _ _ hyc)).trans hyc; clear hSw; go_simp; all_goals with_reducible rfl)
          try simp only [oTgLook15, Act.put, sA, sB, sC]
          refine tkM hLast 9 oTgLook16 ?vv22_110_9 rfl (by kernel_rfl) (by kernel_rfl) (by kernel_rfl) (by rfl) (fun _ _ _ h => h) (by rfl) ?hy22_110_9 (by assumption) ?rest22_110_9
          case hy22_110_9 => (intro w hSw; unfold oTgLook16; (try dsimp only at hSw); have q := ((HTX.out.below hSw).kids p).look (l := y) (by unfold maxLen; omega) HVY.out; clear hSw; go_simp; all_goals with_reducible rfl)
          try simp only [oTgLook16, Act.put, sA, sB, sC]
          refine tkM hLast 10 oTgLook17 ?vv22_111_10 rfl (by kernel_rfl) (by kernel_rfl) (by kernel_rfl) (by rfl) (fun _ _ _ h => h) (by rfl) ?hy22_111_10 (by assumption) ?rest22_111_10
          case hy22_111_10 => (intro w hSw; unfold oTgLook17; (try dsimp only at hSw); (try go_split_ands); go_simp; all_goals with_reducible rfl)
          try simp only [oTgLook17, Act.put, sA, sB, sC]
          refine tkM hLast 11 oTgLook18 ?vv22_111_11 rfl (by kernel_rfl) (by kernel_rfl) (by kernel_rfl) (by rfl) (fun _ _ _ h => h) (by rfl) ?hy22_111_11 (by assumption) ?rest22_111_11
          case hy22_111_11 => (intro w hSw; unfold oTgLook18; (try dsimp only at hSw); (try go_split_ands); go_simp; all_goals with_reducible rfl)
          try simp only [oTgLook18, Act.put, sA, sB, sC]
          refine anyM_ready (rs := [12]) (by kernel_rfl) (by simp) ?_
          refine (AllM.cons (o := oTgLook19) rfl (fun K hK => ?_) AllM.nil)
          unfold oTgLook19
          go_simp
          (go_at_call 43; refine (ih.out m' hm' (i + 1) _ (p ++ [y]) vy _ sx (by omega) (by omega) (by omega) HVY.out (HTX.out.below hHeld) (HKX2.out.below hHeld) (HCX.out.below hHeld) HKX.out).mono ?_; rintro e w6 ⟨rfl, hC6, hU6⟩)
          refine hK.out _ _ (fun hne => absurd rfl hne) ?_
          clear hK K
          try simp only [oTgLook19, Act.put, sA, sB, sC]
          refine anyM_done (by kernel_rfl) ?_ _
          have hU7 : Outs wx w6 (fun x => x = bd) := (Outs.of_below hHeld).trans hU6 (fun _ _ h => h)
          have HC7 := Lib.hid hC6
          have HU7 := Lib.hid hU7
          clear hC6 hU6 hU7 hHeld hyc k6 k7 k5 k8 k9 c0 c1
          go_wp2_with fail
          (first | go_end0 | refine bodyPost_ret (results_none rfl _ _ _) rfl ?_)
          refine ⟨rfl, HC7.out.congr fun c => ?_, HUX.out.trans HU7.out (fun _ _ h => h)⟩
          rw [lk_step hfit hpl p i y HY.out c false HMB.out, HSX.out]
          simp [MbC]
    | some b35 =>
      obtain rfl : v35 = .pointer (some ⟨b35, 0, none⟩) := by rw [← hv35, h35]; rfl
      cases mq with
      | false =>
        have HNX : Hid (∀ c, ¬ MbC false (G.cl (p ++ [[35]]) c)) := fun c hc => by cases hc.1
        clear hv35 h35
        obtain ⟨wx, hwx⟩ : ∃ wx, wx = wc := ⟨_, rfl⟩
        obtain ⟨sx, hsx⟩ : ∃ sx, sx = s := ⟨_, rfl⟩
        rw [← hwx] at hl35 c00 HT HK HC HUC ⊢
        rw [← hsx] at HC hks
        have HTX := HT
        have HKX2 := HK
        have HUX := HUC
        have HCX := HC
        have HKX := Lib.hid hks
        have HSX := sx_iff hsx HNX.out
        clear hwx hsx HT HK HC HUC hks HNX
        obtain ⟨gl, cl, k6, k7, k5, k8, k9⟩ := HKX2.out
        obtain ⟨c0, c1, _⟩ := HTX.out.cell p b hb
        by_cases hie : i = ns.length
        · skip
          have hd5 : ((i : Int) == (ns.length : Int)) = true := by rw [hie]; simp
          go_wp2_with fail
          have hHeld : Below wx.heap.size wx wx.drew := (Below.refl _ _).drew
          refine region_last (S := (fun w' => Below wx.heap.size wx w')) (m := 5) (by kernel_rfl) ?_
          have hLast : LastL .any _ 5 := last_chain (ops := #[oTgLook1, oTgLook2, oTgLook3, oTgLook4, oTgLook5, oTgLook6]) [(0, 5), (4, 5), (3, 4), (2, 3), (1, 2)] (by kernel_rfl)
          refine tkM hLast 0 oTgLook1 ?vv23_112_0 rfl (by kernel_rfl) (by kernel_rfl) (by kernel_rfl) (by rfl) (fun _ _ _ h => h) (by rfl) ?hy23_112_0 (by assumption) ?rest23_112_0
          case hy23_112_0 => (intro w hSw; unfold oTgLook1; (try dsimp only at hSw); have q := (hSw.cell (World.block_lt_of_cell? _ _ k7)).trans k7; clear hSw; go_simp; all_goals with_reducible rfl)
          try simp only [oTgLook1, Act.put, sA, sB, sC]
          refine tkM hLast 1 oTgLook2 ?vv23_113_1 rfl (by kernel_rfl) (by kernel_rfl) (by kernel_rfl) (by rfl) (fun _ _ _ h => h) (by rfl) ?hy23_113_1 (by assumption) ?rest23_113_1
          case hy23_113_1 => (intro w hSw; unfold oTgLook2; (try dsimp only at hSw); (try go_split_ands); go_simp; all_goals with_reducible rfl)
          try simp only [oTgLook2, Act.put, sA, sB, sC]
          refine tkM hLast 2 oTgLook3 ?vv23_113_2 rfl (by kernel_rfl) (by kernel_rfl) (by kernel_rfl) (by rfl) (fun _ _ _ h => h) (by rfl) ?hy23_113_2 (by assumption) ?rest23_113_2
          case hy23_113_2 => (intro w hSw; unfold oTgLook3; (try dsimp only at hSw); (try go_split_ands); go_simp; all_goals with_reducible rfl)
          try simp only [oTgLook3, Act.put, sA, sB, sC]
          refine tkM hLast 3 oTgLook4 ?vv23_113_3 rfl (by kernel_rfl) (by kernel_rfl) (by kernel_rfl) (by rfl) (fun _ _ _ h => h) (by rfl) ?hy23_113_3 (by assumption) ?rest23_113_3
          case hy23_113_3 => (intro w hSw; unfold oTgLook4; (try dsimp only at hSw); (try go_split_ands); go_simp; all_goals with_reducible rfl)
          try simp only [oTgLook4, Act.put, sA, sB, sC]
          refine tkM hLast 4 oTgLook5 ?vv23_114_4 rfl (by kernel_rfl) (by kernel_rfl) (by kernel_rfl) (by rfl) (fun _ _ _ h => h) (by rfl) ?hy23_114_4 (by assumption) ?rest23_114_4
          case hy23_114_4 => (intro w hSw; unfold oTgLook5; (try dsimp only at hSw); have q := (hSw.cell (World.block_lt_of_cell? _ _ c1)).trans c1; clear hSw; go_simp; all_goals with_reducible rfl)
          try simp only [oTgLook5, Act.put, sA, sB, sC]
          refine anyM_ready (rs := [5]) (by kernel_rfl) (by simp) ?_
          refine (AllM.cons (o := oTgLook6) rfl (fun K hK => ?_) AllM.nil)
          unfold oTgLook6
          go_simp
          (go_at_call 44; refine (copy_any bd (G.bl 2 p) sx (G.cl p) (HCX.out.below hHeld) ((HTX.out.below hHeld).clis p) (fun e => hbd ⟨2, p, e⟩) ks HKX.out (fun c hc => hkc p c hc) hkl).mono ?_; rintro e w6 ⟨rfl, hC6, hU6⟩)
          refine hK.out _ _ (fun hne => absurd rfl hne) ?_
          clear hK K
          try simp only [oTgLook6, Act.put, sA, sB, sC]
          refine anyM_done (by kernel_rfl) ?_ _
          have hU7 : Outs wx w6 (fun x => x = bd) := (Outs.of_below hHeld).trans hU6 (fun _ _ h => h)
          have HC7 := Lib.hid hC6
          have HU7 := Lib.hid hU7
          clear hC6 hU6 hU7 hHeld
          go_wp2_with fail
          (first | go_end0 | refine bodyPost_ret (results_none rfl _ _ _) rfl ?_)
          refine ⟨rfl, HC7.out.congr fun c => ?_, HUX.out.trans HU7.out (fun _ _ h => h)⟩
          rw [lk_end hfit p i hie c _ HMB.out, HSX.out]
          exact ⟨fun h => h.elim (fun h => h.elim Or.inl (fun h => Or.inr (Or.inr h))) (fun h => Or.inr (Or.inl h)), fun h => h.elim (fun h => Or.inl (Or.inl h)) (fun h => h.elim Or.inr (fun h => Or.inl (Or.inr h)))⟩
        · skip
          have hd5 : ((i : Int) == (ns.length : Int)) = false := by simp; omega
          obtain ⟨y, hy⟩ : ∃ y, ns[i]? = some y := ⟨ns[i], List.getElem?_eq_getElem (by omega)⟩
          obtain ⟨_, _, y2, e9, hy2, hyc⟩ := k9.at_ (k := i) (by omega)
          cases e9
          rw [hy] at hy2
          cases hy2
          rw [Nat.zero_add] at hyc
          have hyl := hnl.out y (List.mem_of_getElem? hy)
          have HY := Lib.hid hy
          have hiI : (i : Int) < (ns.length : Int) := by omega
          have hi0 : (0 : Int) ≤ (i : Int) := by omega
          have hw1 : IntKind.i64.wrap ((i : Int) + 1) = (i : Int) + 1 := IntWalk.i64_in _ (by omega)
          obtain ⟨vy, hvy⟩ : ∃ vy, ptrO (G.bl 0 (p ++ [y])) = vy := ⟨_, rfl⟩
          have HVY := Lib.hid hvy
          obtain ⟨m', hm'⟩ : ∃ m', m' + 1 = m := ⟨m - 1, by omega⟩
          clear hy hvy
          go_wp2_with fail
          have hHeld : Below wx.heap.size wx wx.drew := (Below.refl _ _).drew
          refine region_last (S := (fun w' => Below wx.heap.size wx w')) (m := 12) (by kernel_rfl) ?_
          have hLast : LastL .any _ 12 := last_chain (ops := #[oTgLook7, oTgLook8, oTgLook9, oTgLook10, oTgLook11, oTgLook12, oTgLook13, oTgLook14, oTgLook15, oTgLook16, oTgLook17, oTgLook18, oTgLook19]) [(0, 12), (9, 12), (4, 9), (3, 4), (2, 3), (1, 2), (8, 9), (7, 8), (5, 7), (6, 7), (11, 12), (10, 11)] (by kernel_rfl)
          refine tkM hLast 0 oTgLook7 ?vv24_115_0 rfl (by kernel_rfl) (by kernel_rfl) (by kernel_rfl) (by rfl) (fun _ _ _ h => h) (by rfl) ?hy24_115_0 (by assumption) ?rest24_115_0
          case hy24_115_0 => (intro w hSw; unfold oTgLook7; (try dsimp only at hSw); have q := (hSw.cell (World.block_lt_of_cell? _ _ k8)).trans k8; clear hSw; go_simp; all_goals with_reducible rfl)
          try simp only [oTgLook7, Act.put, sA, sB, sC]
          refine tkM hLast 1 oTgLook8 ?vv24_116_1 rfl (by kernel_rfl) (by kernel_rfl) (by kernel_rfl) (by rfl) (fun _ _ _ h => h) (by rfl) ?hy24_116_1 (by assumption) ?rest24_116_1
          case hy24_116_1 => (intro w hSw; unfold oTgLook8; (try dsimp only at hSw); (try go_split_ands); go_simp; all_goals with_reducible rfl)
          try simp only [oTgLook8, Act.put, sA, sB, sC]
          refine tkM hLast 2 oTgLook9 ?vv24_116_2 rfl (by kernel_rfl) (by kernel_rfl) (by kernel_rfl) (by rfl) (fun _ _ _ h => h) (by rfl) ?hy24_116_2 (by assumption) ?rest24_116_2
          case hy24_116_2 => (intro w hSw; unfold oTgLook9; (try dsimp only at hSw); (try go_split_ands); go_simp; all_goals with_reducible rfl)
          try simp only [oTgLook9, Act.put, sA, sB, sC]
          refine tkM hLast 3 oTgLook10 ?vv24_116_3 rfl (by kernel_rfl) (by kernel_rfl) (by kernel_rfl) (by rfl) (fun _ _ _ h => h) (by rfl) ?hy24_116_3 (by assumption) ?rest24_116_3
          case hy24_116_3 => (intro w hSw; unfold oTgLook10; (try dsimp only at hSw); (try go_split_ands); go_simp; all_goals with_reducible rfl)
          try simp only [oTgLook10, Act.put, sA, sB, sC]
          refine tkM hLast 4 oTgLook11 ?vv24_117_4 rfl (by kernel_rfl) (by kernel_rfl) (by kernel_rfl) (by rfl) (fun _ _ _ h => h) (by rfl) ?hy24_117_4 (by assumption) ?rest24_117_4
          case hy24_117_4 => (intro w hSw; unfold oTgLook11; (try dsimp only at hSw); have q := (hSw.cell (World.block_lt_of_cell? _ _ c0)).trans c0; clear hSw; go_simp; all_goals with_reducible rfl)
          try simp only [oTgLook11, Act.put, sA, sB, sC]
          refine tkM hLast 5 oTgLook12 ?vv24_118_5 rfl (by kernel_rfl) (by kernel_rfl) (by kernel_rfl) (by rfl) (fun _ _ _ h => h) (by rfl) ?hy24_118_5 (by assumption) ?rest24_118_5
          case hy24_118_5 => (intro w hSw; unfold oTgLook12; (try dsimp only at hSw); have q := (hSw.cell (World.block_lt_of_cell? _ _ k5)).trans k5; clear hSw; go_simp; all_goals with_reducible rfl)
          try simp only [oTgLook12, Act.put, sA, sB, sC]
          refine tkM hLast 6 oTgLook13 ?vv24_119_6 rfl (by kernel_rfl) (by kernel_rfl) (by kernel_rfl) (by rfl) (fun _ _ _ h => h) (by rfl) ?hy24_119_6 (by assumption) ?rest24_119_6
          case hy24_119_6 => (intro w hSw; unfold oTgLook13; (try dsimp only at hSw); (try go_split_ands); go_simp; all_goals with_reducible rfl)
          try simp only [oTgLook13, Act.put, sA, sB, sC]
          refine tkM hLast 7 oTgLook14 ?vv24_119_7 rfl (by kernel_rfl) (by kernel_rfl) (by kernel_rfl) (by rfl) (fun _ _ _ h => h) (by rfl) ?hy24_119_7 (by assumption) ?rest24_119_7
          case hy24_119_7 => (intro w hSw; unfold oTgLook14; (try dsimp only at hSw); (try go_split_ands); go_simp; all_goals with_reducible rfl)
          try simp only [oTgLook14, Act.put, sA, sB, sC]
          refine tkM hLast 8 oTgLook15 ?vv24_120_8 rfl (by kernel_rfl) (by kernel_rfl) (by kernel_rfl) (by rfl) (fun _ _ _ h => h) (by rfl) ?hy24_120_8 (by assumption) ?rest24_120_8
          case hy24_120_8 => (intro w hSw; unfold oTgLook15; (try dsimp only at hSw); have q := (hSw.cell (World.block_lt_of_cell? _ _ hyc)).trans hyc; clear hSw; go_simp; all_goals with_reducible rfl)
          try simp only [oTgLook15, Act.put, sA, sB, sC]
          refine tkM hLast 9 oTgLook16 ?vv24_121_9 rfl (by kernel_rfl) (by kernel_rfl) (by kernel_rfl) (by rfl) (fun _ _ _ h => h) (by rfl) ?hy24_121_9 (by assumption) ?rest24_121_9
          case hy24_121_9 => (intro w hSw; unfold oTgLook16; (try dsimp only at hSw); have q := ((HTX.out.below hSw).kids p).look (l := y) (by unfold maxLen; omega) HVY.out; clear hSw; go_simp; all_goals with_reducible rfl)
          try simp only [oTgLook16, Act.put, sA, sB, sC]
          refine tkM hLast 10 oTgLook17 ?vv24_122_10 rfl (by kernel_rfl) (by kernel_rfl) (by kernel_rfl) (by rfl) (fun _ _ _ h => h) (by rfl) ?hy24_122_10 (by assumption) ?rest24_122_10
          case hy24_122_10 => (intro w hSw; unfold oTgLook17; (try dsimp only at hSw); (try go_split_ands); go_simp; all_goals with_reducible rfl)
          try simp only [oTgLook17, Act.put, sA, sB, sC]
          refine tkM hLast 11 oTgLook18 ?vv24_122_11 rfl (by kernel_rfl) (by kernel_rfl) (by kernel_rfl) (by rfl) (fun _ _ _ h => h) (by rfl) ?hy24_122_11 (by assumption) ?rest24_122_11
          case hy24_122_11 => (intro w hSw; unfold oTgLook18; (try dsimp only at hSw); (try go_split_ands); go_simp; all_goals with_reducible rfl)
          try simp only [oTgLook18, Act.put, sA, sB, sC]
          refine anyM_ready (rs := [12]) (by kernel_rfl) (by simp) ?_
          refine (AllM.cons (o := oTgLook19) rfl (fun K hK => ?_) AllM.nil)
          unfold oTgLook19
          go_simp
          (go_at_call 43; refine (ih.out m' hm' (i + 1) _ (p ++ [y]) vy _ sx (by omega) (by omega) (by omega) HVY.out (HTX.out.below hHeld) (HKX2.out.below hHeld) (HCX.out.below hHeld) HKX.out).mono ?_; rintro e w6 ⟨rfl, hC6, hU6⟩)
          refine hK.out _ _ (fun hne => absurd rfl hne) ?_
          clear hK K
          try simp only [oTgLook19, Act.put, sA, sB, sC]
          refine anyM_done (by kernel_rfl) ?_ _
          have hU7 : Outs wx w6 (fun x => x = bd) := (Outs.of_below hHeld).trans hU6 (fun _ _ h => h)
          have HC7 := Lib.hid hC6
          have HU7 := Lib.hid hU7
          clear hC6 hU6 hU7 hHeld hyc k6 k7 k5 k8 k9 c0 c1
          go_wp2_with fail
          (first | go_end0 | refine bodyPost_ret (results_none rfl _ _ _) rfl ?_)
          refine ⟨rfl, HC7.out.congr fun c => ?_, HUX.out.trans HU7.out (fun _ _ h => h)⟩
          rw [lk_step hfit hpl p i y HY.out c false HMB.out, HSX.out]
          simp [MbC]
      | true =>
        obtain ⟨_, c35, _⟩ := HT.out.cell _ b35 h35
        obtain ⟨gl1, cl1, _, k71, _, _, _⟩ := HK.out
        have H35 := Lib.hid h35
        clear hv35 h35
        go_wp2_with fail
        have hHeld : Below wc.heap.size wc wc.drew := (Below.refl _ _).drew
        refine region_last (S := (fun w' => Below wc.heap.size wc w')) (m := 5) (by kernel_rfl) ?_
        have hLast : LastL .any _ 5 := last_chain (ops := #[oTgLook29, oTgLook30, oTgLook31, oTgLook32, oTgLook33, oTgLook34]) [(0, 5), (4, 5), (3, 4), (2, 3), (1, 2)] (by kernel_rfl)
        refine tkM hLast 0 oTgLook29 ?vv25_123_0 rfl (by kernel_rfl) (by kernel_rfl) (by kernel_rfl) (by rfl) (fun _ _ _ h => h) (by rfl) ?hy25_123_0 (by assumption) ?rest25_123_0
        case hy25_123_0 => (intro w hSw; unfold oTgLook29; (try dsimp only at hSw); have q := (hSw.cell (World.block_lt_of_cell? _ _ k71)).trans k71; clear hSw; go_simp; all_goals with_reducible rfl)
        try simp only [oTgLook29, Act.put, sA, sB, sC]
        refine tkM hLast 1 oTgLook30 ?vv25_124_1 rfl (by kernel_rfl) (by kernel_rfl) (by kernel_rfl) (by rfl) (fun _ _ _ h => h) (by rfl) ?hy25_124_1 (by assumption) ?rest25_124_1
        case hy25_124_1 => (intro w hSw; unfold oTgLook30; (try dsimp only at hSw); (try go_split_ands); go_simp; all_goals with_reducible rfl)
        try simp only [oTgLook30, Act.put, sA, sB, sC]
        refine tkM hLast 2 oTgLook31 ?vv25_124_2 rfl (by kernel_rfl) (by kernel_rfl) (by kernel_rfl) (by rfl) (fun _ _ _ h => h) (by rfl) ?hy25_124_2 (by assumption) ?rest25_124_2
        case hy25_124_2 => (intro w hSw; unfold oTgLook31; (try dsimp only at hSw); (try go_split_ands); go_simp; all_goals with_reducible rfl)
        try simp only [oTgLook31, Act.put, sA, sB, sC]
        refine tkM hLast 3 oTgLook32 ?vv25_124_3 rfl (by kernel_rfl) (by kernel_rfl) (by kernel_rfl) (by rfl) (fun _ _ _ h => h) (by rfl) ?hy25_124_3 (by assumption) ?rest25_124_3
        case hy25_124_3 => (intro w hSw; unfold oTgLook32; (try dsimp only at hSw); (try go_split_ands); go_simp; all_goals with_reducible rfl)
        try simp only [oTgLook32, Act.put, sA, sB, sC]
        refine tkM hLast 4 oTgLook33 ?vv25_125_4 rfl (by kernel_rfl) (by kernel_rfl) (by kernel_rfl) (by rfl) (fun _ _ _ h => h) (by rfl) ?hy25_125_4 (by assumption) ?rest25_125_4
        case hy25_125_4 => (intro w hSw; unfold oTgLook33; (try dsimp only at hSw); have q := (hSw.cell (World.block_lt_of_cell? _ _ c35)).trans c35; clear hSw; go_simp; all_goals with_reducible rfl)
        try simp only [oTgLook33, Act.put, sA, sB, sC]
        refine anyM_ready (rs := [5]) (by kernel_rfl) (by simp) ?_
        refine (AllM.cons (o := oTgLook34) rfl (fun K hK => ?_) AllM.nil)
        unfold oTgLook34
        go_simp
        (go_at_call 44; refine (copy_any bd (G.bl 2 (p ++ [[35]])) s (G.cl (p ++ [[35]])) (HC.out.below hHeld) ((HT.out.below hHeld).clis (p ++ [[35]])) (fun e => hbd ⟨2, p ++ [[35]], e⟩) ks hks (fun c hc => hkc (p ++ [[35]]) c hc) hkl).mono ?_; rintro e wx ⟨rfl, hC6, hU6⟩)
        refine hK.out _ _ (fun hne => absurd rfl hne) ?_
        clear hK K
        try simp only [oTgLook34, Act.put, sA, sB, sC]
        refine anyM_done (by kernel_rfl) ?_ _
        have hU7 : Outs wc wx (fun x => x = bd) := (Outs.of_below hHeld).trans hU6 (fun _ _ h => h)
        obtain ⟨sx, hsx⟩ : ∃ sx, sx = fun c => s c ∨ G.cl (p ++ [[35]]) c := ⟨_, rfl⟩
        rw [← hsx] at hC6
        have HTX : Hid (TR wx t G h ii) := HT.out.outs hU7 (fun b e hf => hbd (e ▸ hf))
        have HKX2 : Hid (LkK ns hid bd p6 p7 p5 p8 wx) := HK.out.outs HC.out hU7 hn0
        have HUX : Hid (Outs w wx (fun x => x = bd)) := HUC.out.trans hU7 (fun _ _ h => h)
        have HCX := Lib.hid hC6
        have HKX : Hid (∀ c, sx c → c ∈ ks) := fun c hc => by
          rw [hsx] at hc
          exact hc.elim (hks c) (hkc _ c)
        have HSX : Hid (∀ c, sx c ↔ s c ∨ MbC true (G.cl (p ++ [[35]]) c)) := fun c => by rw [hsx]; simp [MbC]
        clear hU7 hsx hC6 hU6 hHeld k71 c35 c00 HT HK HC HUC hks hl35
        obtain ⟨gl, cl, k6, k7, k5, k8, k9⟩ := HKX2.out
        obtain ⟨c0, c1, _⟩ := HTX.out.cell p b hb
        by_cases hie : i = ns.length
        · skip
          have hd5 : ((i : Int) == (ns.length : Int)) = true := by rw [hie]; simp
          go_wp2_with fail
          have hHeld : Below wx.heap.size wx wx.drew := (Below.refl _ _).drew
          refine region_last (S := (fun w' => Below wx.heap.size wx w')) (m := 5) (by kernel_rfl) ?_
          have hLast : LastL .any _ 5 := last_chain (ops := #[oTgLook1, oTgLook2, oTgLook3, oTgLook4, oTgLook5, oTgLook6]) [(0, 5), (4, 5), (3, 4), (2, 3), (1, 2)] (by kernel_rfl)
          refine tkM hLast 0 oTgLook1 ?vv26_126_0 rfl (by kernel_rfl) (by kernel_rfl) (by kernel_rfl) (by rfl) (fun _ _ _ h => h) (by rfl) ?hy26_126_0 (by assumption) ?rest26_126_0
          case hy26_126_0 => (intro w hSw; unfold oTgLook1; (try dsimp only at hSw); have q := (hSw.cell (World.block_lt_of_cell? _ _ k7)).trans k7; clear hSw; go_simp; all_goals with_reducible rfl)
          try simp only [oTgLook1, Act.put, sA, sB, sC]
          refine tkM hLast 1 oTgLook2 ?vv26_127_1 rfl (by kernel_rfl) (by kernel_rfl) (by kernel_rfl) (by rfl) (fun _ _ _ h => h) (by rfl) ?hy26_127_1 (by assumption) ?rest26_127_1
          case hy26_127_1 => (intro w hSw; unfold oTgLook2; (try dsimp only at hSw); (try go_split_ands); go_simp; all_goals with_reducible rfl)
          try simp only [oTgLook2, Act.put, sA, sB, sC]
          refine tkM hLast 2 oTgLook3 ?vv26_127_2 rfl (by kernel_rfl) (by kernel_rfl) (by kernel_rfl) (by rfl) (fun _ _ _ h => h) (by rfl) ?hy26_127_2 (by assumption) ?rest26_127_2
          case hy26_127_2 => (intro w hSw; unfold oTgLook3; (try dsimp only at hSw); (try go_split_ands); go_simp; all_goals with_reducible rfl)
          try simp only [oTgLook3, Act.put, sA, sB, sC]
          refine tkM hLast 3 oTgLook4 ?vv26_127_3 rfl (by kernel_rfl) (by kernel_rfl) (by kernel_rfl) (by rfl) (fun _ _ _ h => h) (by rfl) ?hy26_127_3 (by assumption) ?rest26_127_3
          case hy26_127_3 => (intro w hSw; unfold oTgLook4; (try dsimp only at hSw); (try go_split_ands); go_simp; all_goals with_reducible rfl)
          try simp only [oTgLook4, Act.put, sA, sB, sC]
          refine tkM hLast 4 oTgLook5 ?vv26_128_4 rfl (by kernel_rfl) (by kernel_rfl) (by kernel_rfl) (by rfl) (fun _ _ _ h => h) (by rfl) ?hy26_128_4 (by assumption) ?rest26_128_4
          case hy26_128_4 => (intro w hSw; unfold oTgLook5; (try dsimp only at hSw); have q := (hSw.cell (World.block_lt_of_cell? _ _ c1)).trans c1; clear hSw; go_simp; all_goals with_reducible rfl)
          try simp only [oTgLook5, Act.put, sA, sB, sC]
          refine anyM_ready (rs := [5]) (by kernel_rfl) (by simp) ?_
          refine (AllM.cons (o := oTgLook6) rfl (fun K hK => ?_) AllM.nil)
          unfold oTgLook6
          go_simp
          (go_at_call 44; refine (copy_any bd (G.bl 2 p) sx (G.cl p) (HCX.out.below hHeld) ((HTX.out.below hHeld).clis p) (fun e => hbd ⟨2, p, e⟩) ks HKX.out (fun c hc => hkc p c hc) hkl).mono ?_; rintro e w6 ⟨rfl, hC6, hU6⟩)
          refine hK.out _ _ (fun hne => absurd rfl hne) ?_
          clear hK K
          try simp only [oTgLook6, Act.put, sA, sB, sC]
          refine anyM_done (by kernel_rfl) ?_ _
          have hU7 : Outs wx w6 (fun x => x = bd) := (Outs.of_below hHeld).trans hU6 (fun _ _ h => h)
          have HC7 := Lib.hid hC6
          have HU7 := Lib.hid hU7
          clear hC6 hU6 hU7 hHeld
          go_wp2_with fail
          (first | go_end0 | refine bodyPost_ret (results_none rfl _ _ _) rfl ?_)
          refine ⟨rfl, HC7.out.congr fun c => ?_, HUX.out.trans HU7.out (fun _ _ h => h)⟩
          rw [lk_end hfit p i hie c _ HMB.out, HSX.out]
          exact ⟨fun h => h.elim (fun h => h.elim Or.inl (fun h => Or.inr (Or.inr h))) (fun h => Or.inr (Or.inl h)), fun h => h.elim (fun h => Or.inl (Or.inl h)) (fun h => h.elim Or.inr (fun h => Or.inl (Or.inr h)))⟩
        · skip
          have hd5 : ((i : Int) == (ns.length : Int)) = false := by simp; omega
          obtain ⟨y, hy⟩ : ∃ y, ns[i]? = some y := ⟨ns[i], List.getElem?_eq_getElem (by omega)⟩
          obtain ⟨_, _, y2, e9, hy2, hyc⟩ := k9.at_ (k := i) (by omega)
          cases e9
          rw [hy] at hy2
          cases hy2
          rw [Nat.zero_add] at hyc
          have hyl := hnl.out y (List.mem_of_getElem? hy)
          have HY := Lib.hid hy
          have hiI : (i : Int) < (ns.length : Int) := by omega
          have hi0 : (0 : Int) ≤ (i : Int) := by omega
          have hw1 : IntKind.i64.wrap ((i : Int) + 1) = (i : Int) + 1 := IntWalk.i64_in _ (by omega)
          obtain ⟨vy, hvy⟩ : ∃ vy, ptrO (G.bl 0 (p ++ [y])) = vy := ⟨_, rfl⟩
          have HVY := Lib.hid hvy
          obtain ⟨m', hm'⟩ : ∃ m', m' + 1 = m := ⟨m - 1, by omega⟩
          clear hy hvy
          go_wp2_with fail
          have hHeld : Below wx.heap.size wx wx.drew := (Below.refl _ _).drew
          refine region_last (S := (fun w' => Below wx.heap.size wx w')) (m := 12) (by kernel_rfl) ?_
          have hLast : LastL .any _ 12 := last_chain (ops := #[oTgLook7, oTgLook8, oTgLook9, oTgLook10, oTgLook11, oTgLook12, oTgLook13, oTgLook14, oTgLook15, oTgLook16, oTgLook17, oTgLook18, oTgLook19]) [(0, 12), (9, 12), (4, 9), (3, 4), (2, 3), (1, 2), (8, 9), (7, 8), (5, 7), (6, 7), (11, 12), (10, 11)] (by kernel_rfl)
          refine tkM hLast 0 oTgLook7 ?vv27_129_0 rfl (by kernel_rfl) (by kernel_rfl) (by kernel_rfl) (by rfl) (fun _ _ _ h => h) (by rfl) ?hy27_129_0 (by assumption) ?rest27_129_0
          case hy27_129_0 => (intro w hSw; unfold oTgLook7; (try dsimp only at hSw); have q := (hSw.cell (World.block_lt_of_cell? _ _ k8)).trans k8; clear hSw; go_simp; all_goals with_reducible rfl)
          try simp only [oTgLook7, Act.put, sA, sB, sC]
          refine tkM hLast 1 oTgLook8 ?vv27_130_1 rfl (by kernel_rfl) (by kernel_rfl) (by kernel_rfl) (by rfl) (fun _ _ _ h => h) (by rfl) ?hy27_130_1 (by assumption) ?rest27_130_1
          case hy27_130_1 => (intro w hSw; unfold oTgLook8; (try dsimp only at hSw); (try go_split_ands); go_simp; all_goals with_reducible rfl)
          try simp only [oTgLook8, Act.put, sA, sB, sC]
          refine tkM hLast 2 oTgLook9 ?vv27_130_2 rfl (by kernel_rfl) (by kernel_rfl) (by kernel_rfl) (by rfl) (fun _ _ _ h => h) (by rfl) ?hy27_130_2 (by assumption) ?rest27_130_2
          case hy27_130_2 => (intro w hSw; unfold oTgLook9; (try dsimp only at hSw); (try go_split_ands); go_simp; all_goals with_reducible rfl)
          try simp only [oTgLook9, Act.put, sA, sB, sC]
          refine tkM hLast 3 oTgLook10 ?vv27_130_3 rfl (by kernel_rfl) (by kernel_rfl) (by kernel_rfl) (by rfl) (fun _ _ _ h => h) (by rfl) ?hy27_130_3 (by assumption) ?rest27_130_3
          case hy27_130_3 => (intro w hSw; unfold oTgLook10; (try dsimp only at hSw); (try go_split_ands); go_simp; all_goals with_reducible rfl)
          try simp only [oTgLook10, Act.put, sA, sB, sC]
          refine tkM hLast 4 oTgLook11 ?vv27_131_4 rfl (by kernel_rfl) (by kernel_rfl) (by kernel_rfl) (by rfl) (fun _ _ _ h => h) (by rfl) ?hy27_131_4 (by assumption) ?rest27_131_4
          case hy27_131_4 => (intro w hSw; unfold oTgLook11; (try dsimp only at hSw); have q := (hSw.cell (World.block_lt_of_cell? _ _ c0)).trans c0; clear hSw; go_simp; all_goals with_reducible rfl)
          try simp only [oTgLook11, Act.put, sA, sB, sC]
          refine tkM hLast 5 oTgLook12 ?vv27_132_5 rfl (by kernel_rfl) (by kernel_rfl) (by kernel_rfl) (by rfl) (fun _ _ _ h => h) (by rfl) ?hy27_132_5 (by assumption) ?rest27_132_5
          case hy27_132_5 => (intro w hSw; unfold oTgLook12; (try dsimp only at hSw); have q := (hSw.cell (World.block_lt_of_cell? _ _ k5)).trans k5; clear hSw; go_simp; all_goals with_reducible rfl)
          try simp only [oTgLook12, Act.put, sA, sB, sC]
          refine tkM hLast 6 oTgLook13 ?vv27_133_6 rfl (by kernel_rfl) (by kernel_rfl) (by kernel_rfl) (by rfl) (fun _ _ _ h => h) (by rfl) ?hy27_133_6 (by assumption) ?rest27_133_6
          case hy27_133_6 => (intro w hSw; unfold oTgLook13; (try dsimp only at hSw); (try go_split_ands); go_simp; all_goals with_reducible rfl)
          try simp only [oTgLook13, Act.put, sA, sB, sC]
          refine tkM hLast 7 oTgLook14 ?vv27_133_7 rfl (by kernel_rfl) (by kernel_rfl) (by kernel_rfl) (by rfl) (fun _ _ _ h => h) (by rfl) ?hy27_133_7 (by assumption) ?rest27_133_7
          case hy27_133_7 => (intro w hSw; unfold oTgLook14; (try dsimp only at hSw); (try go_split_ands); go_simp; all_goals with_reducible rfl)
          try simp only [oTgLook14, Act.put, sA, sB, sC]
          refine tkM hLast 8 oTgLook15 ?vv27_134_8 rfl (by kernel_rfl) (by kernel_rfl) (by kernel_rfl) (by rfl) (fun _ _ _ h => h) (by rfl) ?hy27_134_8 (by assumption) ?rest27_134_8
          case hy27_134_8 => (intro w hSw; unfold oTgLook15; (try dsimp only at hSw); have q := (hSw.cell (World.block_lt_of_cell? _ _ hyc)).trans hyc; clear hSw; go_simp; all_goals with_reducible rfl)
          try simp only [oTgLook15, Act.put, sA, sB, sC]
          refine tkM hLast 9 oTgLook16 ?vv27_135_9 rfl (by kernel_rfl) (by kernel_rfl) (by kernel_rfl) (by rfl) (fun _ _ _ h => h) (by rfl) ?hy27_135_9 (by assumption) ?rest27_135_9
          case hy27_135_9 => (intro w hSw; unfold oTgLook16; (try dsimp only at hSw); have q := ((HTX.out.below hSw).kids p).look (l := y) (by unfold maxLen; omega) HVY.out; clear hSw; go_simp; all_goals with_reducible rfl)
          try simp only [oTgLook16, Act.put, sA, sB, sC]
          refine tkM hLast 10 oTgLook17 ?vv27_136_10 rfl (by kernel_rfl) (by kernel_rfl) (by kernel_rfl) (by rfl) (fun _ _ _ h => h) (by rfl) ?hy27_136_10 (by assumption) ?rest27_136_10
          case hy27_136_10 => (intro w hSw; unfold oTgLook17; (try dsimp only at hSw); (try go_split_ands); go_simp; all_goals with_reducible rfl)
          try simp only [oTgLook17, Act.put, sA, sB, sC]
          refine tkM hLast 11 oTgLook18 ?vv27_136_11 rfl (by kernel_rfl) (by kernel_rfl) (by kernel_rfl) (by rfl) (fun _ _ _ h => h) (by rfl) ?hy27_136_11 (by assumption) ?rest27_136_11
          case hy27_136_11 => (intro w hSw; unfold oTgLook18; (try dsimp only at hSw); (try go_split_ands); go_simp; all_goals with_reducible rfl)
          try simp only [oTgLook18, Act.put, sA, sB, sC]
          refine anyM_ready (rs := [12]) (by kernel_rfl) (by simp) ?_
          refine (AllM.cons (o := oTgLook19) rfl (fun K hK => ?_) AllM.nil)
          unfold oTgLook19
          go_simp
          (go_at_call 43; refine (ih.out m' hm' (i + 1) _ (p ++ [y]) vy _ sx (by omega) (by omega) (by omega) HVY.out (HTX.out.below hHeld) (HKX2.out.below hHeld) (HCX.out.below hHeld) HKX.out).mono ?_; rintro e w6 ⟨rfl, hC6, hU6⟩)
          refine hK.out _ _ (fun hne => absurd rfl hne) ?_
          clear hK K
          try simp only [oTgLook19, Act.put, sA, sB, sC]
          refine anyM_done (by kernel_rfl) ?_ _
          have hU7 : Outs wx w6 (fun x => x = bd) := (Outs.of_below hHeld).trans hU6 (fun _ _ h => h)
          have HC7 := Lib.hid hC6
          have HU7 := Lib.hid hU7
          have HT7 : Hid (TR w6 t G h ii) := HTX.out.outs HU7.out (fun b e hf => hbd (e ▸ hf))
          have HK7 : Hid (LkK ns hid bd p6 p7 p5 p8 w6) := HKX2.out.outs HCX.out HU7.out hn0
          have HKS7 : Hid (∀ c, (sx c ∨ LkP G.cl hid ns (p ++ [y]) (i + 1) c) → c ∈ ks) := fun c hc => hc.elim (HKX.out c) (fun ⟨r, hr, _⟩ => hkc _ c hr)
          obtain ⟨gl7, cl7, k67, k77, k57, k87, k97⟩ := HK7.out
          obtain ⟨c07, c17, _⟩ := HT7.out.cell p b hb
          obtain ⟨vp, hvp⟩ : ∃ vp, ptrO (G.bl 0 (p ++ [[43]])) = vp := ⟨_, rfl⟩
          have HVP := Lib.hid hvp
          clear hC6 hU6 hU7 hHeld hyc hvp k6 k7 k5 k8 k9 c0 c1
          go_wp2_with fail
          have hHeld : Below w6.heap.size w6 w6.drew := (Below.refl _ _).drew
          refine region_last (S := (fun w' => Below w6.heap.size w6 w')) (m := 8) (by kernel_rfl) ?_
          have hLast : LastL .any _ 8 := last_chain (ops := #[oTgLook20, oTgLook21, oTgLook22, oTgLook23, oTgLook24, oTgLook25, oTgLook26, oTgLook27, oTgLook28]) [(0, 8), (5, 8), (4, 5), (3, 4), (2, 3), (1, 2), (7, 8), (6, 7)] (by kernel_rfl)
          refine tkM hLast 0 oTgLook20 ?vv28_137_0 rfl (by kernel_rfl) (by kernel_rfl) (by kernel_rfl) (by rfl) (fun _ _ _ h => h) (by rfl) ?hy28_137_0 (by assumption) ?rest28_137_0
          case hy28_137_0 => (intro w hSw; unfold oTgLook20; (try dsimp only at hSw); have q := (hSw.cell (World.block_lt_of_cell? _ _ k87)).trans k87; clear hSw; go_simp; all_goals with_reducible rfl)
          try simp only [oTgLook20, Act.put, sA, sB, sC]
          refine tkM hLast 1 oTgLook21 ?vv28_138_1 rfl (by kernel_rfl) (by kernel_rfl) (by kernel_rfl) (by rfl) (fun _ _ _ h => h) (by rfl) ?hy28_138_1 (by assumption) ?rest28_138_1
          case hy28_138_1 => (intro w hSw; unfold oTgLook21; (try dsimp only at hSw); (try go_split_ands); go_simp; all_goals with_reducible rfl)
          try simp only [oTgLook21, Act.put, sA, sB, sC]
          refine tkM hLast 2 oTgLook22 ?vv28_138_2 rfl (by kernel_rfl) (by kernel_rfl) (by kernel_rfl) (by rfl) (fun _ _ _ h => h) (by rfl) ?hy28_138_2 (by assumption) ?rest28_138_2
          case hy28_138_2 => (intro w hSw; unfold oTgLook22; (try dsimp only at hSw); (try go_split_ands); go_simp; all_goals with_reducible rfl)
          try simp only [oTgLook22, Act.put, sA, sB, sC]
          refine tkM hLast 3 oTgLook23 ?vv28_138_3 rfl (by kernel_rfl) (by kernel_rfl) (by kernel_rfl) (by rfl) (fun _ _ _ h => h) (by rfl) ?hy28_138_3 (by assumption) ?rest28_138_3
          case hy28_138_3 => (intro w hSw; unfold oTgLook23; (try dsimp only at hSw); (try go_split_ands); go_simp; all_goals with_reducible rfl)
          try simp only [oTgLook23, Act.put, sA, sB, sC]
          refine tkM hLast 4 oTgLook24 ?vv28_139_4 rfl (by kernel_rfl) (by kernel_rfl) (by kernel_rfl) (by rfl) (fun _ _ _ h => h) (by rfl) ?hy28_139_4 (by assumption) ?rest28_139_4
          case hy28_139_4 => (intro w hSw; unfold oTgLook24; (try dsimp only at hSw); have q := (hSw.cell (World.block_lt_of_cell? _ _ c07)).trans c07; clear hSw; go_simp; all_goals with_reducible rfl)
          try simp only [oTgLook24, Act.put, sA, sB, sC]
          refine tkM hLast 5 oTgLook25 ?vv28_140_5 rfl (by kernel_rfl) (by kernel_rfl) (by kernel_rfl) (by rfl) (fun _ _ _ h => h) (by rfl) ?hy28_140_5 (by assumption) ?rest28_140_5
          case hy28_140_5 => (intro w hSw; unfold oTgLook25; (try dsimp only at hSw); have q := ((HT7.out.below hSw).kids p).look (l := [43]) (by unfold maxLen; simp) HVP.out; clear hSw; go_simp; all_goals with_reducible rfl)
          try simp only [oTgLook25, Act.put, sA, sB, sC]
          refine tkM hLast 6 oTgLook26 ?vv28_141_6 rfl (by kernel_rfl) (by kernel_rfl) (by kernel_rfl) (by rfl) (fun _ _ _ h => h) (by rfl) ?hy28_141_6 (by assumption) ?rest28_141_6
          case hy28_141_6 => (intro w hSw; unfold oTgLook26; (try dsimp only at hSw); (try go_split_ands); go_simp; all_goals with_reducible rfl)
          try simp only [oTgLook26, Act.put, sA, sB, sC]
          refine tkM hLast 7 oTgLook27 ?vv28_141_7 rfl (by kernel_rfl) (by kernel_rfl) (by kernel_rfl) (by rfl) (fun _ _ _ h => h) (by rfl) ?hy28_141_7 (by assumption) ?rest28_141_7
          case hy28_141_7 => (intro w hSw; unfold oTgLook27; (try dsimp only at hSw); (try go_split_ands); go_simp; all_goals with_reducible rfl)
          try simp only [oTgLook27, Act.put, sA, sB, sC]
          refine anyM_ready (rs := [8]) (by kernel_rfl) (by simp) ?_
          refine (AllM.cons (o := oTgLook28) rfl (fun K hK => ?_) AllM.nil)
          unfold oTgLook28
          go_simp
          (go_at_call 43; refine (ih.out m' hm' (i + 1) _ (p ++ [[43]]) vp _ _ (by omega) (by omega) (by omega) HVP.out (HT7.out.below hHeld) (HK7.out.below hHeld) (HC7.out.below hHeld) HKS7.out).mono ?_; rintro e w9 ⟨rfl, hC9, hU9⟩)
          refine hK.out _ _ (fun hne => absurd rfl hne) ?_
          clear hK K
          try simp only [oTgLook28, Act.put, sA, sB, sC]
          refine anyM_done (by kernel_rfl) ?_ _
          have hU8 : Outs w6 w9 (fun x => x = bd) := (Outs.of_below hHeld).trans hU9 (fun _ _ h => h)
          have HC8 := Lib.hid hC9
          have HU8 := Lib.hid hU8
          clear hC9 hU9 hU8 hHeld
          go_wp2_with fail
          (first | go_end0 | refine bodyPost_ret (results_none rfl _ _ _) rfl ?_)
          refine ⟨rfl, HC8.out.congr fun c => ?_, (HUX.out.trans HU7.out (fun _ _ h => h)).trans HU8.out (fun _ _ h => h)⟩
          rw [lk_step hfit hpl p i y HY.out c true HMB.out, HSX.out]
          simp [MbC, or_assoc]
theorem look_any (ns : Pth) (hid : Bool) (bd p6 p7 p5 p8 : Nat) (ks : List (List UInt8)) (hkl : ks.length ≤ 1000000) (hkc : ∀ q c, G.cl q c → c ∈ ks) (hfit : ∀ q c, G.cl q c → fitL q = true) (hpl : ∀ x ∈ ns, plB x = true) (hnl : Hid (∀ x ∈ ns, x.length ≤ 1000)) (hn0 : 0 < ns.length) (hn1 : ns.length ≤ 1000) (hbd : ¬ G.F bd) : ∀ m, LkIH G t h ii ns hid bd p6 p7 p5 p8 ks m
  | 0 => look_one ns hid bd p6 p7 p5 p8 ks hkl hkc hfit hpl hnl hn0 hn1 hbd 0 (fun m' hm' => by omega)
  | m + 1 => look_one ns hid bd p6 p7 p5 p8 ks hkl hkc hfit hpl hnl hn0 hn1 hbd (m + 1) (fun m' hm' => by
    obtain rfl : m' = m := by omega
    exact look_any ns hid bd p6 p7 p5 p8 ks hkl hkc hfit hpl hnl hn0 hn1 hbd m')
end
end Go.Proofs.YtipdmfnkkkdlbaaGreatDoor
