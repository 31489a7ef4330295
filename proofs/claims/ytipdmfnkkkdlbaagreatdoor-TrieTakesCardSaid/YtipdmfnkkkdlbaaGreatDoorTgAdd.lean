/-
  trie: a node's child, made if there is none; a client put at a node.
-/
import Derived.Test.YtipdmfnkkkdlbaaGreatDoorTgTree
import Derived.Test.YtipdmfnkkkdlbaaGreatDoorTextWalks
import Derived.Test.YtipdmfnkkkdlbaaGreatDoorLast
set_option linter.unusedSimpArgs false
set_option linter.unusedVariables false
namespace Go.Proofs.YtipdmfnkkkdlbaaGreatDoor
section
open Go.RowKit
def oTgAdd1 : Oper := ({ dst := some 29, op := Go.Op.move (Go.Operand.tmp 1), type := 57, pos := "trie.go:161", after := #[], guard := none } : Oper)
def oTgAdd2 : Oper := ({ dst := some 30, op := Go.Op.nilCheck (Go.Operand.tmp 29), type := 0, pos := "trie.go:161", after := #[{ on := 0, ground := Go.Ground.data }], guard := none } : Oper)
def oTgAdd3 : Oper := ({ dst := some 31, op := Go.Op.fieldAddr 53 (Go.Operand.tmp 30) 0, type := 0, pos := "trie.go:161", after := #[{ on := 1, ground := Go.Ground.data }], guard := none } : Oper)
def oTgAdd4 : Oper := ({ dst := some 32, op := Go.Op.load 49 (Go.Operand.tmp 31), type := 49, pos := "trie.go:161", after := #[{ on := 2, ground := Go.Ground.data }], guard := none } : Oper)
def oTgAdd5 : Oper := ({ dst := some 33, op := Go.Op.move (Go.Operand.tmp 2), type := 9, pos := "trie.go:161", after := #[], guard := none } : Oper)
def oTgAdd6 : Oper := ({ dst := some 34, op := Go.Op.call { callee := Go.Callee.value (Go.Operand.func 72), args := #[Go.Operand.tmp 33], argTypes := #[9] }, type := 9, pos := "trie.go:161", after := #[{ on := 4, ground := Go.Ground.data }], guard := none } : Oper)
def oTgAdd7 : Oper := ({ dst := some 35, op := Go.Op.move (Go.Operand.tmp 8), type := 57, pos := "trie.go:161", after := #[], guard := none } : Oper)
def oTgAdd8 : Oper := ({ dst := none, op := Go.Op.mapUpdate 49 (Go.Operand.tmp 32) (Go.Operand.tmp 34) (Go.Operand.tmp 35), type := 0, pos := "trie.go:161", after := #[{ on := 3, ground := Go.Ground.data }, { on := 5, ground := Go.Ground.data }, { on := 6, ground := Go.Ground.data }, { on := 5, ground := Go.Ground.chain }, { on := 0, ground := Go.Ground.phase }, { on := 1, ground := Go.Ground.phase }, { on := 2, ground := Go.Ground.phase }, { on := 3, ground := Go.Ground.phase }, { on := 4, ground := Go.Ground.phase }, { on := 5, ground := Go.Ground.phase }, { on := 6, ground := Go.Ground.phase }], guard := none } : Oper)
def oTgAdd9 : Oper := ({ dst := some 17, op := Go.Op.move (Go.Operand.tmp 0), type := 57, pos := "trie.go:212", after := #[], guard := none } : Oper)
def oTgAdd10 : Oper := ({ dst := some 18, op := Go.Op.nilCheck (Go.Operand.tmp 17), type := 0, pos := "trie.go:212", after := #[{ on := 0, ground := Go.Ground.data }], guard := none } : Oper)
def oTgAdd11 : Oper := ({ dst := some 19, op := Go.Op.fieldAddr 53 (Go.Operand.tmp 18) 1, type := 0, pos := "trie.go:212", after := #[{ on := 1, ground := Go.Ground.data }], guard := none } : Oper)
def oTgAdd12 : Oper := ({ dst := some 20, op := Go.Op.load 51 (Go.Operand.tmp 19), type := 51, pos := "trie.go:212", after := #[{ on := 2, ground := Go.Ground.data }], guard := none } : Oper)
def oTgAdd13 : Oper := ({ dst := some 21, op := Go.Op.move (Go.Operand.tmp 1), type := 9, pos := "trie.go:212", after := #[], guard := none } : Oper)
def oTgAdd14 : Oper := ({ dst := some 22, op := Go.Op.call { callee := Go.Callee.value (Go.Operand.func 72), args := #[Go.Operand.tmp 21], argTypes := #[9] }, type := 9, pos := "trie.go:212", after := #[{ on := 4, ground := Go.Ground.data }], guard := none } : Oper)
def oTgAdd15 : Oper := ({ dst := some 23, op := Go.Op.build 65 #[], type := 65, pos := "trie.go:212", after := #[], guard := none } : Oper)
def oTgAdd16 : Oper := ({ dst := none, op := Go.Op.mapUpdate 51 (Go.Operand.tmp 20) (Go.Operand.tmp 22) (Go.Operand.tmp 23), type := 0, pos := "trie.go:212", after := #[{ on := 3, ground := Go.Ground.data }, { on := 5, ground := Go.Ground.data }, { on := 6, ground := Go.Ground.data }, { on := 5, ground := Go.Ground.chain }, { on := 0, ground := Go.Ground.phase }, { on := 1, ground := Go.Ground.phase }, { on := 2, ground := Go.Ground.phase }, { on := 3, ground := Go.Ground.phase }, { on := 4, ground := Go.Ground.phase }, { on := 5, ground := Go.Ground.phase }, { on := 6, ground := Go.Ground.phase }], guard := none } : Oper)
end
open Go.RowKit Go.Maps

section
variable {w w' : World} {t : Nat} {G : TG} {h i : Int} {ps : List Pth}
theorem TR.inc (T : TR w t G h i) (i' : Int) : TR (w.setCell ⟨t, 3, none⟩ (.int .i64 i')) t G h i' := by
  have hne : ∀ j, j ≠ 3 → (⟨t, 3, none⟩ : Addr) ≠ ⟨t, j, none⟩ := fun j hj e => hj (by cases e; rfl)
  refine T.num ?_ ?_ ?_ ?_ ?_ ?_
  · rw [World.cell?_setCell_other _ _ _ _ (hne 2 (by decide))]; exact T.hc
  · rw [World.cell?_setCell_same _ _ _ T.ic]
  · rw [World.cell?_setCell_other _ _ _ _ (hne 0 (by decide))]
  · rw [World.cell?_setCell_other _ _ _ _ (hne 1 (by decide))]
  · intro j; rw [World.frozen?_setCell]; exact (T.cell [] t T.root).2.2 j
  · intro b _ hb; rw [heap_setCell_other]; exact hb
theorem TR.hin (T : TR w t G h i) (h' : Int) : TR (w.setCell ⟨t, 2, none⟩ (.int .i64 h')) t G h' i := by
  have hne : ∀ j, j ≠ 2 → (⟨t, 2, none⟩ : Addr) ≠ ⟨t, j, none⟩ := fun j hj e => hj (by cases e; rfl)
  refine T.num ?_ ?_ ?_ ?_ ?_ ?_
  · rw [World.cell?_setCell_same _ _ _ T.hc]
  · rw [World.cell?_setCell_other _ _ _ _ (hne 3 (by decide))]; exact T.ic
  · rw [World.cell?_setCell_other _ _ _ _ (hne 0 (by decide))]
  · rw [World.cell?_setCell_other _ _ _ _ (hne 1 (by decide))]
  · intro j; rw [World.frozen?_setCell]; exact (T.cell [] t T.root).2.2 j
  · intro b _ hb; rw [heap_setCell_other]; exact hb
theorem Outs.mono {F F' : Nat → Prop} (hU : Outs w w' F) (hF : ∀ b, b < w.heap.size → F b → F' b) : Outs w w' F' := ⟨hU.os, hU.tape, hU.output, hU.size, fun b hb hn => hU.block b hb (fun hf => hn (hF b hb hf))⟩
/-- What a node's child leaves. -/
def ChP (w : World) (t : Nat) (G : TG) (h : Int) (q : Pth) (n : Nat) (e : Ending) (w' : World) : Prop :=
  ∃ G' ps' c, e = .returned (.pointer (some ⟨c, 0, none⟩)) ∧ TR w' t G' h (ps'.length : Nat) ∧ PsOk G' ps' ∧ ps'.length ≤ n + 1 ∧ G'.cl = G.cl ∧ (∀ x, G'.bl 0 x ≠ none ↔ G.bl 0 x ≠ none ∨ x = q) ∧ G'.bl 0 q = some c ∧ Outs w w' G.F ∧ ∀ x, G'.F x → G.F x ∨ w.heap.size ≤ x
theorem ps_link (hP : PsOk G ps) {q : Pth} (hq : q ≠ []) (h0 : G.bl 0 q = none) {G' : TG} (hG : ∀ x, G'.bl 0 x ≠ none ↔ G.bl 0 x ≠ none ∨ x = q) : PsOk G' (q :: ps) := by
  refine ⟨List.nodup_cons.2 ⟨fun hm => ((hP.2 q).1 hm).2 h0, hP.1⟩, fun p => ?_⟩
  rw [List.mem_cons, hP.2, hG]
  constructor
  · rintro (rfl | ⟨h1, h2⟩)
    · exact ⟨hq, Or.inr rfl⟩
    · exact ⟨h1, Or.inl h2⟩
  · rintro ⟨h1, h2 | rfl⟩
    · exact Or.inr ⟨h1, h2⟩
    · exact Or.inl rfl
theorem kid_keys (hP : PsOk G ps) (p : Pth) : ∀ x, G.bl 0 (p ++ [x]) ≠ none → x ∈ ps.map fun q => q.getLastD [] := fun x hx => List.mem_map.2 ⟨p ++ [x], (hP.2 _).2 ⟨by simp, hx⟩, by simp⟩
set_option maxHeartbeats 1000000 in
theorem child_some (T : TR w t G h (ps.length : Nat)) (hP : PsOk G ps) {p : Pth} {b c : Nat} (hp : G.bl 0 p = some b) (l : List UInt8) (hl : l.length ≤ 100000) (hc : G.bl 0 (p ++ [l]) = some c) :
    Calls Tryz.prog 47 #[.pointer (some ⟨t, 0, none⟩), .pointer (some ⟨b, 0, none⟩), .string ⟨l.toArray⟩] w fun e w' => ChP w t G h (p ++ [l]) ps.length e w' := by
  obtain ⟨k0, k1, kf⟩ := T.cell p b hp
  have hlk := (T.kids p).look (l := l) (by unfold maxLen; omega) (v := .pointer (some ⟨c, 0, none⟩)) (by rw [hc]; rfl)
  have HT := Lib.hid T
  have HP := Lib.hid hP
  have HC := Lib.hid hc
  clear T hP hc hp
  go_enter Tryz.func47, Tryz.ntmps47
  go_wp2_with fail
  go_ret
  exact ⟨G, ps, c, rfl, HT.out, HP.out, by omega, rfl, fun x => ⟨Or.inl, fun hx => hx.elim id (fun e => by rw [e, HC.out]; simp)⟩, HC.out, Outs.refl _ _, fun x hx => Or.inl hx⟩
theorem F_upd {G : TG} {k : Nat} {p : Pth} {m : Nat} : ∀ x, ({ G with bl := upd G.bl k p (some m) } : TG).F x → G.F x ∨ x = m := by
  rintro x ⟨j, q, hx⟩
  have hx : upd G.bl k p (some m) j q = some x := hx
  unfold upd at hx
  split at hx
  · cases hx; exact Or.inr rfl
  · exact Or.inl ⟨j, q, hx⟩
/-- The node's block, and the new child's, with the map that is there now. -/
theorem child_link {W w6 : World} {m c : Nat} {p : Pth} (T : TR W t G h (ps.length : Nat)) (hP : PsOk G ps) (hps : ps.length ≤ 1000000) (h1 : G.bl 1 p = some m) {l : List UInt8} (hl : l.length ≤ 100000) (h0 : G.bl 0 (p ++ [l]) = none) (hc : ¬ G.F c) (hcl : c < W.heap.size)
    (k0 : W.cell? ⟨c, 0, none⟩ = some (.map none)) (k1 : W.cell? ⟨c, 1, none⟩ = some (.map none)) (kf : ∀ j, W.frozen? ⟨c, j, none⟩ = false) (hb6 : Below W.heap.size W w6) :
    ∃ w8, (Instr.mapUpdate 49 (.map (some m)) (.string ⟨l.toArray⟩) (.pointer (some ⟨c, 0, none⟩))).run Tryz.prog w6 = .ok () w8 ∧
      w8.cell? ⟨t, 3, none⟩ = some (.int .i64 (ps.length : Nat)) ∧ (∀ j, w8.frozen? ⟨t, j, none⟩ = false) ∧ Outs W w8 (fun x => x = m) ∧
      ∃ G', TR (w8.setCell ⟨t, 3, none⟩ (.int .i64 ((ps.length : Nat) + 1 : Int))) t G' h ((((p ++ [l]) :: ps).length : Nat) : Int) ∧ PsOk G' ((p ++ [l]) :: ps) ∧ G'.cl = G.cl ∧ (∀ x, G'.bl 0 x ≠ none ↔ G.bl 0 x ≠ none ∨ x = p ++ [l]) ∧ G'.bl 0 (p ++ [l]) = some c ∧ ∀ x, G'.F x → G.F x ∨ x = c := by
  have T6 := T.below hb6
  have hK := T6.kids p
  rw [h1] at hK
  obtain ⟨w8, hrun, hK8, ht⟩ := KM.store hK (ps.map fun q => q.getLastD []) (kid_keys hP p) (by rw [List.length_map]; unfold maxLen; omega) (l := l) (by unfold maxLen; omega) c
  have hcm : c ≠ m := fun e => hc (e ▸ ⟨1, p, h1⟩)
  have hk0 : ∀ j v, W.cell? ⟨c, j, none⟩ = some v → w8.cell? ⟨c, j, none⟩ = some v := fun j v hv => by
    rw [World.cell?_of_block (turned_block ht c hcm), hb6.cell hcl]; exact hv
  have T8 := T6.link (w' := w8) h1 h0 hc (hk0 0 _ k0) (hk0 1 _ k1) (fun j => by rw [World.frozen?_of_block (turned_block ht c hcm), World.frozen?_of_block (hb6.block c hcl)]; exact kf j) hK8 (fun x _ hx => turned_block ht x hx)
  refine ⟨w8, hrun, T8.ic, (T8.cell [] t T8.root).2.2, (Outs.of_below hb6).trans (turned_outs (F := fun x => x = m) ht rfl) (fun _ _ h => h), { G with bl := upd G.bl 0 (p ++ [l]) (some c) }, ?_, ps_link hP (by simp) h0 ?_, rfl, ?_, upd_same _ _ _ _, F_upd⟩
  · have := T8.inc ((ps.length : Nat) + 1 : Int)
    rw [show (((((p ++ [l]) :: ps).length : Nat)) : Int) = (ps.length : Nat) + 1 by simp]
    exact this
  · intro x
    show upd G.bl 0 (p ++ [l]) (some c) 0 x ≠ none ↔ _
    by_cases hx : x = p ++ [l]
    · subst hx; rw [upd_same]; simp
    · rw [upd_p _ _ _ _ hx]; simp [hx]
  · intro x
    show upd G.bl 0 (p ++ [l]) (some c) 0 x ≠ none ↔ _
    by_cases hx : x = p ++ [l]
    · subst hx; rw [upd_same]; simp
    · rw [upd_p _ _ _ _ hx]; simp [hx]
theorem cell_far_none {w w' : World} {F : Nat → Prop} (hU : Outs w w' F) {b : Nat} (hb : b < w.heap.size) (hF : ¬ F b) (j : Nat) : w'.cell? ⟨b, j, none⟩ = w.cell? ⟨b, j, none⟩ := World.cell?_of_block (hU.block b hb hF)
set_option maxHeartbeats 2000000 in
set_option maxRecDepth 100000 in
theorem child_new (T : TR w t G h (ps.length : Nat)) (hP : PsOk G ps) (hps : ps.length ≤ 1000000) {p : Pth} {b : Nat} (hp : G.bl 0 p = some b) (l : List UInt8) (hl : l.length ≤ 100000) (hc : G.bl 0 (p ++ [l]) = none) :
    Calls Tryz.prog 47 #[.pointer (some ⟨t, 0, none⟩), .pointer (some ⟨b, 0, none⟩), .string ⟨l.toArray⟩] w fun e w' => ChP w t G h (p ++ [l]) ps.length e w' := by
  obtain ⟨k0, k1, kf⟩ := T.cell p b hp
  have hbl := T.lt b ⟨0, p, hp⟩
  have hlk := (T.kids p).look (l := l) (by unfold maxLen; omega) (v := .pointer none) (by rw [hc]; rfl)
  have hmm := @run_makeMap Tryz.prog
  have HT := Lib.hid T
  have HP := Lib.hid hP
  have HC := Lib.hid hc
  have HPB := Lib.hid hp
  cases h1 : G.bl 1 p with
  | some m =>
    rw [h1] at k0 hlk
    obtain ⟨W, hW⟩ : ∃ W, W = w.alloc (.cells #[.map none, .map none] 53) := ⟨_, rfl⟩
    have hbW : Below w.heap.size w W := by rw [hW]; exact below_alloc (Below.refl _ _) _
    have HTW : Hid (TR W t G h (ps.length : Nat)) := T.below hbW
    have HPW := HP
    have HM := Lib.hid h1
    have HC0 := HC
    have HCF : Hid (¬ G.F w.heap.size) := fun e => by have := T.lt _ e; omega
    have HCL : Hid (w.heap.size < W.heap.size) := by show _ < _; rw [hW]; simp
    have HK8 : Hid (W.cell? ⟨w.heap.size, 0, none⟩ = some (.map none)) := by show _ = _; rw [hW, World.cell?_alloc_new]; rfl
    have HK9 : Hid (W.cell? ⟨w.heap.size, 1, none⟩ = some (.map none)) := by show _ = _; rw [hW, World.cell?_alloc_new]; rfl
    have HKF : Hid (∀ j, W.frozen? ⟨w.heap.size, j, none⟩ = false) := fun j => by rw [hW, World.frozen?_alloc_at _ _ _ _ rfl]
    have HK0 : Hid (W.cell? ⟨b, 0, none⟩ = some (.map (some m))) := (hbW.cell hbl).trans k0
    have HBW : Hid (b < W.heap.size) := by have := HCL.out; show _ < _; omega
    have htW := (T.cell [] t T.root).2.2
    clear T hP hc hp h1 k1 kf
    go_enter Tryz.func47, Tryz.ntmps47
    go_wp2_with fail
    rw [← hW]
    clear hlk k0 hW
    refine region_last (S := (fun w' => Below W.heap.size W w')) (m := 7) (by kernel_rfl) ?_
    have hLast : LastL .any _ 7 := last_chain (ops := #[oTgAdd1, oTgAdd2, oTgAdd3, oTgAdd4, oTgAdd5, oTgAdd6, oTgAdd7, oTgAdd8]) [(3, 7), (2, 3), (1, 2), (0, 1), (5, 7), (4, 5), (6, 7)] (by kernel_rfl)
    have hHeld : Below W.heap.size W W.drew := (Below.refl _ _).drew
    refine tkM hLast 0 oTgAdd1 ?vv13_72_0 rfl (by kernel_rfl) (by kernel_rfl) (by kernel_rfl) (by rfl) (fun _ _ _ h => h) (by rfl) ?hy13_72_0 (by assumption) ?rest13_72_0
    case hy13_72_0 => (intro w hSw; unfold oTgAdd1; (try dsimp only at hSw); (try go_split_ands); go_simp; all_goals with_reducible rfl)
    try simp only [oTgAdd1, Act.put, sA, sB, sC]
    refine tkM hLast 1 oTgAdd2 ?vv13_72_1 rfl (by kernel_rfl) (by kernel_rfl) (by kernel_rfl) (by rfl) (fun _ _ _ h => h) (by rfl) ?hy13_72_1 (by assumption) ?rest13_72_1
    case hy13_72_1 => (intro w hSw; unfold oTgAdd2; (try dsimp only at hSw); (try go_split_ands); go_simp; all_goals with_reducible rfl)
    try simp only [oTgAdd2, Act.put, sA, sB, sC]
    refine tkM hLast 2 oTgAdd3 ?vv13_72_2 rfl (by kernel_rfl) (by kernel_rfl) (by kernel_rfl) (by rfl) (fun _ _ _ h => h) (by rfl) ?hy13_72_2 (by assumption) ?rest13_72_2
    case hy13_72_2 => (intro w hSw; unfold oTgAdd3; (try dsimp only at hSw); (try go_split_ands); go_simp; all_goals with_reducible rfl)
    try simp only [oTgAdd3, Act.put, sA, sB, sC]
    refine tkM hLast 4 oTgAdd5 ?vv13_72_4 rfl (by kernel_rfl) (by kernel_rfl) (by kernel_rfl) (by rfl) (fun _ _ _ h => h) (by rfl) ?hy13_72_4 (by assumption) ?rest13_72_4
    case hy13_72_4 => (intro w hSw; unfold oTgAdd5; (try dsimp only at hSw); (try go_split_ands); go_simp; all_goals with_reducible rfl)
    try simp only [oTgAdd5, Act.put, sA, sB, sC]
    refine tkM hLast 6 oTgAdd7 ?vv13_72_6 rfl (by kernel_rfl) (by kernel_rfl) (by kernel_rfl) (by rfl) (fun _ _ _ h => h) (by rfl) ?hy13_72_6 (by assumption) ?rest13_72_6
    case hy13_72_6 => (intro w hSw; unfold oTgAdd7; (try dsimp only at hSw); (try go_split_ands); go_simp; all_goals with_reducible rfl)
    try simp only [oTgAdd7, Act.put, sA, sB, sC]
    refine tkM hLast 3 oTgAdd4 ?vv13_73_3 rfl (by kernel_rfl) (by kernel_rfl) (by kernel_rfl) (by rfl) (fun _ _ _ h => h) (by rfl) ?hy13_73_3 (by assumption) ?rest13_73_3
    case hy13_73_3 => (intro w hSw; unfold oTgAdd4; (try dsimp only at hSw); have q := (hSw.cell HBW.out).trans HK0.out; clear hSw; go_simp; all_goals with_reducible rfl)
    try simp only [oTgAdd4, Act.put, sA, sB, sC]
    refine anyM_ready (rs := [5]) (by kernel_rfl) (by simp) ?_
    refine (AllM.cons (o := oTgAdd6) rfl (fun K hK => ?_) AllM.nil)
    unfold oTgAdd6
    go_simp
    (go_at_call 72; refine (clone_any l _ (by omega)).mono ?_; rintro e w6 ⟨rfl, hb6⟩)
    refine anyM_go hK (by exact below_more hHeld hb6) (fun hHeld => ?_)
    clear hK K
    try simp only [oTgAdd6, Act.put, sA, sB, sC]
    obtain ⟨w8, hrun, hi8, hf8, hU8, G9, T9, P9, hcl9, hn9, hc9, hF9⟩ := child_link HTW.out HPW.out hps HM.out hl HC0.out HCF.out HCL.out HK8.out HK9.out HKF.out hHeld
    refine anyM_ready (rs := [7]) (by kernel_rfl) (by simp) ?_
    refine (AllM.cons (o := oTgAdd8) rfl (fun K hK => ?_) AllM.nil)
    (refine step_upd rfl _ _ _ _ rfl rfl rfl rfl hrun ?_)
    refine hK.out _ _ (fun hne => absurd rfl hne) ?_
    clear hK K
    try simp only [oTgAdd8, Act.put, sA, sB, sC]
    refine anyM_done (by kernel_rfl) ?_ _
    have hwr : IntKind.i64.wrap ((ps.length : Int) + 1) = (ps.length : Int) + 1 := IntWalk.i64_in _ (by omega)
    have HT9 := Lib.hid T9
    have HU8 := Lib.hid hU8
    have hf83 := hf8 3
    clear T9 hU8 hrun hf8 hHeld
    go_wp2_with fail
    go_ret
    refine ⟨G9, _, _, rfl, HT9.out, P9, by simp, ?_, ?_, hc9, ?_, ?_⟩
    · exact hcl9
    · exact hn9
    · exact ((Outs.of_below hbW).trans HU8.out (fun x _ hx => by subst hx; exact ⟨1, p, HM.out⟩)).setCell t 3 HT.out.fr _
    · exact fun x hx => (hF9 x hx).imp id (fun e => by rw [e]; omega)
  | none =>
    rw [h1] at k0 hlk
    have kf0 := kf 0
    obtain ⟨w1, hw1⟩ : ∃ w1, w1 = (w.setCell ⟨b, 0, none⟩ (.map (some w.heap.size))).alloc (.map #[] 0) := ⟨_, rfl⟩
    obtain ⟨W, hW⟩ : ∃ W, W = w1.alloc (.cells #[.map none, .map none] 53) := ⟨_, rfl⟩
    have hs0 : (w.setCell ⟨b, 0, none⟩ (.map (some w.heap.size))).heap.size = w.heap.size := by simp [World.setCell]
    have hs1 : w1.heap.size = w.heap.size + 1 := by rw [hw1]; simp [World.setCell]
    have hU1 : Outs w w1 (fun x => x = b) := by
      rw [hw1]
      exact ((Outs.refl w (fun x => x = b)).setCell b 0 rfl _).more (below_alloc (Below.refl _ _) _)
    have hcc : ∀ j, w1.cell? ⟨b, j, none⟩ = (w.setCell ⟨b, 0, none⟩ (.map (some w.heap.size))).cell? ⟨b, j, none⟩ := fun j => by
      rw [hw1, World.cell?_alloc_past _ _ _ (by rw [hs0]; exact hbl)]
    have T1 := T.kmake (w' := w1) (m := w.heap.size) hp h1 (fun e => by have := T.lt _ e; omega) (by rw [hw1]; have := KM.made (w.setCell ⟨b, 0, none⟩ (.map (some w.heap.size))); rwa [hs0] at this)
      (by rw [hcc, World.cell?_setCell_same _ _ _ k0]) (fun j hj => by rw [hcc, World.cell?_setCell_other _ _ _ _ (fun e => hj (by cases e; rfl))])
      (fun j => by rw [hw1, World.frozen?_alloc_past _ _ _ (by rw [hs0]; exact hbl), World.frozen?_setCell]; exact kf j)
      (fun c hc hcb => hU1.block c (T.lt c hc) hcb)
    have hbW : Below w1.heap.size w1 W := by rw [hW]; exact below_alloc (Below.refl _ _) _
    have HTW : Hid (TR W t { G with bl := upd G.bl 1 p (some w.heap.size) } h (ps.length : Nat)) := T1.below hbW
    have hg0 : ∀ x, upd G.bl 1 p (some w.heap.size) 0 x = G.bl 0 x := fun x => upd_k _ _ _ _ (by decide)
    have HPW : Hid (PsOk { G with bl := upd G.bl 1 p (some w.heap.size) } ps) := ⟨hP.1, fun q => by rw [hP.2]; dsimp only; rw [hg0]⟩
    have HM : Hid (upd G.bl 1 p (some w.heap.size) 1 p = some w.heap.size) := upd_same _ _ _ _
    have HC0 : Hid (upd G.bl 1 p (some w.heap.size) 0 (p ++ [l]) = none) := (hg0 _).trans hc
    have HCF : Hid (¬ TG.F { G with bl := upd G.bl 1 p (some w.heap.size) } w1.heap.size) := fun e => by have := T1.lt _ e; omega
    have HCL : Hid (w1.heap.size < W.heap.size) := by show _ < _; rw [hW]; simp
    have HK8 : Hid (W.cell? ⟨w1.heap.size, 0, none⟩ = some (.map none)) := by show _ = _; rw [hW, World.cell?_alloc_new]; rfl
    have HK9 : Hid (W.cell? ⟨w1.heap.size, 1, none⟩ = some (.map none)) := by show _ = _; rw [hW, World.cell?_alloc_new]; rfl
    have HKF : Hid (∀ j, W.frozen? ⟨w1.heap.size, j, none⟩ = false) := fun j => by rw [hW, World.frozen?_alloc_at _ _ _ _ rfl]
    have HK0 : Hid (W.cell? ⟨b, 0, none⟩ = some (.map (some w.heap.size))) := (hbW.cell (show b < w1.heap.size by omega)).trans (by rw [hcc, World.cell?_setCell_same _ _ _ k0])
    have HBW : Hid (b < W.heap.size) := by have := HCL.out; show _ < _; omega
    have HU1 := Lib.hid hU1
    have HS1 := Lib.hid hs1
    rw [hs1] at HCF HCL HK8 HK9 HKF
    clear T hP hc hp h1 k1 kf T1 hU1 hcc hg0 hs0 hs1
    go_enter Tryz.func47, Tryz.ntmps47
    go_wp2_with fail
    rw [← hw1, ← hW]
    clear hlk k0 hW hw1 kf0
    refine region_last (S := (fun w' => Below W.heap.size W w')) (m := 7) (by kernel_rfl) ?_
    have hLast : LastL .any _ 7 := last_chain (ops := #[oTgAdd1, oTgAdd2, oTgAdd3, oTgAdd4, oTgAdd5, oTgAdd6, oTgAdd7, oTgAdd8]) [(3, 7), (2, 3), (1, 2), (0, 1), (5, 7), (4, 5), (6, 7)] (by kernel_rfl)
    have hHeld : Below W.heap.size W W.drew := (Below.refl _ _).drew
    refine tkM hLast 0 oTgAdd1 ?vv14_74_0 rfl (by kernel_rfl) (by kernel_rfl) (by kernel_rfl) (by rfl) (fun _ _ _ h => h) (by rfl) ?hy14_74_0 (by assumption) ?rest14_74_0
    case hy14_74_0 => (intro w hSw; unfold oTgAdd1; (try dsimp only at hSw); (try go_split_ands); go_simp; all_goals with_reducible rfl)
    try simp only [oTgAdd1, Act.put, sA, sB, sC]
    refine tkM hLast 1 oTgAdd2 ?vv14_74_1 rfl (by kernel_rfl) (by kernel_rfl) (by kernel_rfl) (by rfl) (fun _ _ _ h => h) (by rfl) ?hy14_74_1 (by assumption) ?rest14_74_1
    case hy14_74_1 => (intro w hSw; unfold oTgAdd2; (try dsimp only at hSw); (try go_split_ands); go_simp; all_goals with_reducible rfl)
    try simp only [oTgAdd2, Act.put, sA, sB, sC]
    refine tkM hLast 2 oTgAdd3 ?vv14_74_2 rfl (by kernel_rfl) (by kernel_rfl) (by kernel_rfl) (by rfl) (fun _ _ _ h => h) (by rfl) ?hy14_74_2 (by assumption) ?rest14_74_2
    case hy14_74_2 => (intro w hSw; unfold oTgAdd3; (try dsimp only at hSw); (try go_split_ands); go_simp; all_goals with_reducible rfl)
    try simp only [oTgAdd3, Act.put, sA, sB, sC]
    refine tkM hLast 4 oTgAdd5 ?vv14_74_4 rfl (by kernel_rfl) (by kernel_rfl) (by kernel_rfl) (by rfl) (fun _ _ _ h => h) (by rfl) ?hy14_74_4 (by assumption) ?rest14_74_4
    case hy14_74_4 => (intro w hSw; unfold oTgAdd5; (try dsimp only at hSw); (try go_split_ands); go_simp; all_goals with_reducible rfl)
    try simp only [oTgAdd5, Act.put, sA, sB, sC]
    refine tkM hLast 6 oTgAdd7 ?vv14_74_6 rfl (by kernel_rfl) (by kernel_rfl) (by kernel_rfl) (by rfl) (fun _ _ _ h => h) (by rfl) ?hy14_74_6 (by assumption) ?rest14_74_6
    case hy14_74_6 => (intro w hSw; unfold oTgAdd7; (try dsimp only at hSw); (try go_split_ands); go_simp; all_goals with_reducible rfl)
    try simp only [oTgAdd7, Act.put, sA, sB, sC]
    refine tkM hLast 3 oTgAdd4 ?vv14_75_3 rfl (by kernel_rfl) (by kernel_rfl) (by kernel_rfl) (by rfl) (fun _ _ _ h => h) (by rfl) ?hy14_75_3 (by assumption) ?rest14_75_3
    case hy14_75_3 => (intro w hSw; unfold oTgAdd4; (try dsimp only at hSw); have q := (hSw.cell HBW.out).trans HK0.out; clear hSw; go_simp; all_goals with_reducible rfl)
    try simp only [oTgAdd4, Act.put, sA, sB, sC]
    refine anyM_ready (rs := [5]) (by kernel_rfl) (by simp) ?_
    refine (AllM.cons (o := oTgAdd6) rfl (fun K hK => ?_) AllM.nil)
    unfold oTgAdd6
    go_simp
    (go_at_call 72; refine (clone_any l _ (by omega)).mono ?_; rintro e w6 ⟨rfl, hb6⟩)
    refine anyM_go hK (by exact below_more hHeld hb6) (fun hHeld => ?_)
    clear hK K
    try simp only [oTgAdd6, Act.put, sA, sB, sC]
    obtain ⟨w8, hrun, hi8, hf8, hU8, G9, T9, P9, hcl9, hn9, hc9, hF9⟩ := child_link HTW.out HPW.out hps HM.out hl HC0.out HCF.out HCL.out HK8.out HK9.out HKF.out hHeld
    refine anyM_ready (rs := [7]) (by kernel_rfl) (by simp) ?_
    refine (AllM.cons (o := oTgAdd8) rfl (fun K hK => ?_) AllM.nil)
    (refine step_upd rfl _ _ _ _ rfl rfl rfl rfl hrun ?_)
    refine hK.out _ _ (fun hne => absurd rfl hne) ?_
    clear hK K
    try simp only [oTgAdd8, Act.put, sA, sB, sC]
    refine anyM_done (by kernel_rfl) ?_ _
    have hwr : IntKind.i64.wrap ((ps.length : Int) + 1) = (ps.length : Int) + 1 := IntWalk.i64_in _ (by omega)
    have HT9 := Lib.hid T9
    have HU8 := Lib.hid hU8
    have hf83 := hf8 3
    clear T9 hU8 hrun hf8 hHeld
    go_wp2_with fail
    go_ret
    refine ⟨G9, _, _, rfl, HT9.out, P9, by simp, ?_, ?_, hc9, ?_, ?_⟩
    · exact hcl9
    · intro x
      rw [hn9]
      show upd G.bl 1 p (some w.heap.size) 0 x ≠ none ∨ _ ↔ _
      rw [upd_k _ _ _ _ (by decide)]
    · refine Outs.setCell ?_ t 3 HT.out.fr _
      exact (HU1.out.trans ((Outs.of_below (F := fun x => x = w.heap.size) hbW).trans HU8.out (fun _ _ h => h)) (fun x hx e => by omega)).mono (fun x _ e => by rw [e]; exact ⟨0, p, HPB.out⟩)
    · intro x hx
      rcases hF9 x hx with h2 | h2
      · rcases F_upd x h2 with h3 | h3
        · exact Or.inl h3
        · exact Or.inr (by omega)
      · exact Or.inr (by omega)
theorem child_any (T : TR w t G h (ps.length : Nat)) (hP : PsOk G ps) (hps : ps.length ≤ 1000000) {p : Pth} {b : Nat} (hp : G.bl 0 p = some b) (l : List UInt8) (hl : l.length ≤ 100000) :
    Calls Tryz.prog 47 #[.pointer (some ⟨t, 0, none⟩), .pointer (some ⟨b, 0, none⟩), .string ⟨l.toArray⟩] w fun e w' => ChP w t G h (p ++ [l]) ps.length e w' := by
  cases hc : G.bl 0 (p ++ [l]) with
  | none => exact child_new T hP hps hp l hl hc
  | some c => exact child_some T hP hp l hl hc
theorem nAdd_no (T : TR w t G h i) {p : Pth} {b : Nat} (hp : G.bl 0 p = some b) (c : List UInt8) (hl : c.length ≤ maxLen) (hc : G.cl p c) :
    Calls Tryz.prog 48 #[.pointer (some ⟨b, 0, none⟩), .string ⟨c.toArray⟩] w fun e w' => e = .returned (.bool false) ∧ Below w.heap.size w w' := by
  have hr : true = true ↔ G.cl p c := ⟨fun _ => hc, fun _ => rfl⟩
  have H := Lib.hid (nHas_eq T hp c true hl hr)
  clear T hc hr
  go_enter Tryz.func48, Tryz.ntmps48
  go_wp2_with fail
  refine H.out.mono ?_
  rintro e w1 ⟨rfl, hb1⟩
  go_wp2_with fail
  go_ret
  exact ⟨rfl, hb1⟩
def AdP (w : World) (t : Nat) (G : TG) (h i : Int) (p : Pth) (c : List UInt8) (e : Ending) (w' : World) : Prop :=
  ∃ G', e = .returned (.bool true) ∧ TR w' t G' h i ∧ (∀ x, G'.bl 0 x = G.bl 0 x) ∧ (∀ q x, G'.cl q x ↔ G.cl q x ∨ (q = p ∧ x = c)) ∧ Outs w w' G.F ∧ ∀ x, G'.F x → G.F x ∨ w.heap.size ≤ x
set_option maxHeartbeats 2000000 in
set_option maxRecDepth 100000 in
theorem nAdd_yes (T : TR w t G h i) {p : Pth} {b : Nat} (hp : G.bl 0 p = some b) (c : List UInt8) (hl : c.length ≤ 100000) (hc : ¬ G.cl p c) (ks : List (List UInt8)) (hks : ∀ x, G.cl p x → x ∈ ks) (hkl : ks.length ≤ 1000000) :
    Calls Tryz.prog 48 #[.pointer (some ⟨b, 0, none⟩), .string ⟨c.toArray⟩] w fun e w' => AdP w t G h i p c e w' := by
  have hr : false = true ↔ G.cl p c := ⟨fun e => by (cases e), fun e => absurd e hc⟩
  have H := Lib.hid (nHas_eq T hp c false (by unfold maxLen; omega) hr)
  have hmm := @run_makeMap Tryz.prog
  have HT := Lib.hid T
  have HPB := Lib.hid hp
  have HKS0 := Lib.hid hks
  have hbl := T.lt b ⟨0, p, hp⟩
  clear hr hks
  cases h1 : G.bl 2 p with
  | some MM =>
    clear hp hc
    have HM := Lib.hid h1
    have HKS := HKS0
    clear T
    go_enter Tryz.func48, Tryz.ntmps48
    go_wp2_with fail
    refine H.out.mono ?_
    rintro e W ⟨rfl, hbW⟩
    have HTW := Lib.hid (HT.out.below hbW)
    obtain ⟨k0, k1, kf⟩ := HTW.out.cell p b HPB.out
    rw [h1] at k1
    have HK0 := Lib.hid k1
    have HBW : Hid (b < W.heap.size) := Nat.lt_of_lt_of_le hbl hbW.size
    clear k0 kf h1
    go_wp2_with fail
    clear k1
    refine region_last (S := (fun w' => Below W.heap.size W w')) (m := 7) (by kernel_rfl) ?_
    have hLast : LastL .any _ 7 := last_chain (ops := #[oTgAdd9, oTgAdd10, oTgAdd11, oTgAdd12, oTgAdd13, oTgAdd14, oTgAdd15, oTgAdd16]) [(3, 7), (2, 3), (1, 2), (0, 1), (5, 7), (4, 5), (6, 7)] (by kernel_rfl)
    have hHeld : Below W.heap.size W W.drew := (Below.refl _ _).drew
    refine tkM hLast 0 oTgAdd9 ?vv15_76_0 rfl (by kernel_rfl) (by kernel_rfl) (by kernel_rfl) (by rfl) (fun _ _ _ h => h) (by rfl) ?hy15_76_0 (by assumption) ?rest15_76_0
    case hy15_76_0 => (intro w hSw; unfold oTgAdd9; (try dsimp only at hSw); (try go_split_ands); go_simp; all_goals with_reducible rfl)
    try simp only [oTgAdd9, Act.put, sA, sB, sC]
    refine tkM hLast 1 oTgAdd10 ?vv15_76_1 rfl (by kernel_rfl) (by kernel_rfl) (by kernel_rfl) (by rfl) (fun _ _ _ h => h) (by rfl) ?hy15_76_1 (by assumption) ?rest15_76_1
    case hy15_76_1 => (intro w hSw; unfold oTgAdd10; (try dsimp only at hSw); (try go_split_ands); go_simp; all_goals with_reducible rfl)
    try simp only [oTgAdd10, Act.put, sA, sB, sC]
    refine tkM hLast 2 oTgAdd11 ?vv15_76_2 rfl (by kernel_rfl) (by kernel_rfl) (by kernel_rfl) (by rfl) (fun _ _ _ h => h) (by rfl) ?hy15_76_2 (by assumption) ?rest15_76_2
    case hy15_76_2 => (intro w hSw; unfold oTgAdd11; (try dsimp only at hSw); (try go_split_ands); go_simp; all_goals with_reducible rfl)
    try simp only [oTgAdd11, Act.put, sA, sB, sC]
    refine tkM hLast 4 oTgAdd13 ?vv15_76_4 rfl (by kernel_rfl) (by kernel_rfl) (by kernel_rfl) (by rfl) (fun _ _ _ h => h) (by rfl) ?hy15_76_4 (by assumption) ?rest15_76_4
    case hy15_76_4 => (intro w hSw; unfold oTgAdd13; (try dsimp only at hSw); (try go_split_ands); go_simp; all_goals with_reducible rfl)
    try simp only [oTgAdd13, Act.put, sA, sB, sC]
    refine tkM hLast 6 oTgAdd15 ?vv15_76_6 rfl (by kernel_rfl) (by kernel_rfl) (by kernel_rfl) (by rfl) (fun _ _ _ h => h) (by rfl) ?hy15_76_6 (by assumption) ?rest15_76_6
    case hy15_76_6 => (intro w hSw; unfold oTgAdd15; (try dsimp only at hSw); (try go_split_ands); go_simp; all_goals with_reducible rfl)
    try simp only [oTgAdd15, Act.put, sA, sB, sC]
    refine tkM hLast 3 oTgAdd12 ?vv15_77_3 rfl (by kernel_rfl) (by kernel_rfl) (by kernel_rfl) (by rfl) (fun _ _ _ h => h) (by rfl) ?hy15_77_3 (by assumption) ?rest15_77_3
    case hy15_77_3 => (intro w hSw; unfold oTgAdd12; (try dsimp only at hSw); have q := (hSw.cell HBW.out).trans HK0.out; clear hSw; go_simp; all_goals with_reducible rfl)
    try simp only [oTgAdd12, Act.put, sA, sB, sC]
    refine anyM_ready (rs := [5]) (by kernel_rfl) (by simp) ?_
    refine (AllM.cons (o := oTgAdd14) rfl (fun K hK => ?_) AllM.nil)
    unfold oTgAdd14
    go_simp
    (go_at_call 72; refine (clone_any c _ (by omega)).mono ?_; rintro e w6 ⟨rfl, hb6⟩)
    refine anyM_go hK (by exact below_more hHeld hb6) (fun hHeld => ?_)
    clear hK K
    try simp only [oTgAdd14, Act.put, sA, sB, sC]
    have T6 := HTW.out.below hHeld
    have hK := T6.clis p
    have hM := HM.out
    try dsimp only at hM hK
    rw [hM] at hK
    obtain ⟨w8, hrun, hK8, ht⟩ := CM.store hK ks HKS.out (by unfold maxLen; omega) (l := c) (by unfold maxLen; omega)
    have T8 := Lib.hid (T6.cset (w' := w8) HM.out hK8 (fun x _ hx => turned_block ht x hx))
    have HU8 := Lib.hid ((Outs.of_below hHeld).trans (turned_outs (F := fun x => x = MM) ht (by first | rfl | exact HMM.out.symm)) (fun _ _ h => h))
    clear T6 hK hK8 ht
    refine anyM_ready (rs := [7]) (by kernel_rfl) (by simp) ?_
    refine (AllM.cons (o := oTgAdd16) rfl (fun K hK => ?_) AllM.nil)
    (refine step_upd rfl _ _ _ _ rfl rfl rfl rfl hrun ?_)
    refine hK.out _ _ (fun hne => absurd rfl hne) ?_
    clear hK K
    try simp only [oTgAdd16, Act.put, sA, sB, sC]
    refine anyM_done (by kernel_rfl) ?_ _
    clear hrun hHeld
    go_wp2_with fail
    go_ret
    refine ⟨_, rfl, T8.out, ?_, ?_, ?_, ?_⟩
    · exact fun x => rfl
    · intro q x
      dsimp only
      by_cases hq : q = p
      · subst hq; rw [if_pos rfl]; exact ⟨fun h => h.elim (fun e => Or.inr ⟨rfl, e⟩) Or.inl, fun h => h.elim Or.inr (fun e => Or.inl e.2)⟩
      · rw [if_neg hq]; exact ⟨Or.inl, fun h => h.elim id (fun e => absurd e.1 hq)⟩
    · exact (Outs.of_below hbW).trans HU8.out (fun x _ hx => by subst hx; exact ⟨2, p, HM.out⟩)
    · exact fun x hx => Or.inl hx
  | none =>
    clear hp
    go_enter Tryz.func48, Tryz.ntmps48
    go_wp2_with fail
    refine H.out.mono ?_
    rintro e w2 ⟨rfl, hb2⟩
    have T2 := HT.out.below hb2
    have hp2 := HPB.out
    obtain ⟨k0, k1, kf⟩ := T2.cell p b hp2
    rw [h1] at k1
    have hbl2 : b < w2.heap.size := Nat.lt_of_lt_of_le hbl hb2.size
    have kf0 := kf 1
    obtain ⟨W, hW⟩ : ∃ W, W = (w2.setCell ⟨b, 1, none⟩ (.map (some w2.heap.size))).alloc (.map #[] 0) := ⟨_, rfl⟩
    have hs0 : (w2.setCell ⟨b, 1, none⟩ (.map (some w2.heap.size))).heap.size = w2.heap.size := by simp [World.setCell]
    have hs1 : W.heap.size = w2.heap.size + 1 := by rw [hW]; simp [World.setCell]
    have hU1 : Outs w2 W (fun x => x = b) := by
      rw [hW]
      exact ((Outs.refl w2 (fun x => x = b)).setCell b 1 rfl _).more (below_alloc (Below.refl _ _) _)
    have hcc : ∀ j, W.cell? ⟨b, j, none⟩ = (w2.setCell ⟨b, 1, none⟩ (.map (some w2.heap.size))).cell? ⟨b, j, none⟩ := fun j => by
      rw [hW, World.cell?_alloc_past _ _ _ (by rw [hs0]; exact hbl2)]
    have HF2 : Hid (¬ G.F w2.heap.size) := fun e => by have := T2.lt _ e; omega
    have T1 := T2.cmake (w' := W) (m := w2.heap.size) hp2 h1 HF2.out (by rw [hW]; have := CM.made (w2.setCell ⟨b, 1, none⟩ (.map (some w2.heap.size))); rwa [hs0] at this)
      (by rw [hcc, World.cell?_setCell_same _ _ _ k1]) (fun j hj => by rw [hcc, World.cell?_setCell_other _ _ _ _ (fun e => hj (by cases e; rfl))])
      (fun j => by rw [hW, World.frozen?_alloc_past _ _ _ (by rw [hs0]; exact hbl2), World.frozen?_setCell]; exact kf j)
      (fun c hc hcb => hU1.block c (T2.lt c hc) hcb)
    have HTW := Lib.hid T1
    obtain ⟨MM, hMM⟩ : ∃ MM, MM = w2.heap.size := ⟨_, rfl⟩
    have HM : Hid (TG.bl { G with bl := upd G.bl 2 p (some w2.heap.size) } 2 p = some MM) := by rw [hMM]; exact upd_same _ _ _ _
    have HKS : Hid (∀ x, TG.cl { G with bl := upd G.bl 2 p (some w2.heap.size) } p x → x ∈ ks) := HKS0.out
    have HK0 : Hid (W.cell? ⟨b, 1, none⟩ = some (.map (some w2.heap.size))) := by show _ = _; rw [hcc, World.cell?_setCell_same _ _ _ k1]
    have HBW : Hid (b < W.heap.size) := by show _ < _; omega
    have HU1 := Lib.hid hU1
    have HB2 := Lib.hid hb2
    have HMM := Lib.hid hMM
    clear T hc h1 k0 kf T1 hU1 hcc hs0 hs1 T2 hp2 hb2
    go_wp2_with fail
    rw [← hW]
    clear k1 hW kf0
    rw [hMM] at HM
    refine region_last (S := (fun w' => Below W.heap.size W w')) (m := 7) (by kernel_rfl) ?_
    have hLast : LastL .any _ 7 := last_chain (ops := #[oTgAdd9, oTgAdd10, oTgAdd11, oTgAdd12, oTgAdd13, oTgAdd14, oTgAdd15, oTgAdd16]) [(3, 7), (2, 3), (1, 2), (0, 1), (5, 7), (4, 5), (6, 7)] (by kernel_rfl)
    have hHeld : Below W.heap.size W W.drew := (Below.refl _ _).drew
    refine tkM hLast 0 oTgAdd9 ?vv16_78_0 rfl (by kernel_rfl) (by kernel_rfl) (by kernel_rfl) (by rfl) (fun _ _ _ h => h) (by rfl) ?hy16_78_0 (by assumption) ?rest16_78_0
    case hy16_78_0 => (intro w hSw; unfold oTgAdd9; (try dsimp only at hSw); (try go_split_ands); go_simp; all_goals with_reducible rfl)
    try simp only [oTgAdd9, Act.put, sA, sB, sC]
    refine tkM hLast 1 oTgAdd10 ?vv16_78_1 rfl (by kernel_rfl) (by kernel_rfl) (by kernel_rfl) (by rfl) (fun _ _ _ h => h) (by rfl) ?hy16_78_1 (by assumption) ?rest16_78_1
    case hy16_78_1 => (intro w hSw; unfold oTgAdd10; (try dsimp only at hSw); (try go_split_ands); go_simp; all_goals with_reducible rfl)
    try simp only [oTgAdd10, Act.put, sA, sB, sC]
    refine tkM hLast 2 oTgAdd11 ?vv16_78_2 rfl (by kernel_rfl) (by kernel_rfl) (by kernel_rfl) (by rfl) (fun _ _ _ h => h) (by rfl) ?hy16_78_2 (by assumption) ?rest16_78_2
    case hy16_78_2 => (intro w hSw; unfold oTgAdd11; (try dsimp only at hSw); (try go_split_ands); go_simp; all_goals with_reducible rfl)
    try simp only [oTgAdd11, Act.put, sA, sB, sC]
    refine tkM hLast 4 oTgAdd13 ?vv16_78_4 rfl (by kernel_rfl) (by kernel_rfl) (by kernel_rfl) (by rfl) (fun _ _ _ h => h) (by rfl) ?hy16_78_4 (by assumption) ?rest16_78_4
    case hy16_78_4 => (intro w hSw; unfold oTgAdd13; (try dsimp only at hSw); (try go_split_ands); go_simp; all_goals with_reducible rfl)
    try simp only [oTgAdd13, Act.put, sA, sB, sC]
    refine tkM hLast 6 oTgAdd15 ?vv16_78_6 rfl (by kernel_rfl) (by kernel_rfl) (by kernel_rfl) (by rfl) (fun _ _ _ h => h) (by rfl) ?hy16_78_6 (by assumption) ?rest16_78_6
    case hy16_78_6 => (intro w hSw; unfold oTgAdd15; (try dsimp only at hSw); (try go_split_ands); go_simp; all_goals with_reducible rfl)
    try simp only [oTgAdd15, Act.put, sA, sB, sC]
    refine tkM hLast 3 oTgAdd12 ?vv16_79_3 rfl (by kernel_rfl) (by kernel_rfl) (by kernel_rfl) (by rfl) (fun _ _ _ h => h) (by rfl) ?hy16_79_3 (by assumption) ?rest16_79_3
    case hy16_79_3 => (intro w hSw; unfold oTgAdd12; (try dsimp only at hSw); have q := (hSw.cell HBW.out).trans HK0.out; clear hSw; go_simp; all_goals with_reducible rfl)
    try simp only [oTgAdd12, Act.put, sA, sB, sC]
    refine anyM_ready (rs := [5]) (by kernel_rfl) (by simp) ?_
    refine (AllM.cons (o := oTgAdd14) rfl (fun K hK => ?_) AllM.nil)
    unfold oTgAdd14
    go_simp
    (go_at_call 72; refine (clone_any c _ (by omega)).mono ?_; rintro e w6 ⟨rfl, hb6⟩)
    refine anyM_go hK (by exact below_more hHeld hb6) (fun hHeld => ?_)
    clear hK K
    try simp only [oTgAdd14, Act.put, sA, sB, sC]
    have T6 := HTW.out.below hHeld
    have hK := T6.clis p
    have hM := HM.out
    try dsimp only at hM hK
    rw [hM] at hK
    obtain ⟨w8, hrun, hK8, ht⟩ := CM.store hK ks HKS.out (by unfold maxLen; omega) (l := c) (by unfold maxLen; omega)
    have T8 := Lib.hid (T6.cset (w' := w8) HM.out hK8 (fun x _ hx => turned_block ht x hx))
    have HU8 := Lib.hid ((Outs.of_below hHeld).trans (turned_outs (F := fun x => x = MM) ht (by first | rfl | exact HMM.out.symm)) (fun _ _ h => h))
    clear T6 hK hK8 ht
    refine anyM_ready (rs := [7]) (by kernel_rfl) (by simp) ?_
    refine (AllM.cons (o := oTgAdd16) rfl (fun K hK => ?_) AllM.nil)
    (refine step_upd rfl _ _ _ _ rfl rfl rfl rfl hrun ?_)
    refine hK.out _ _ (fun hne => absurd rfl hne) ?_
    clear hK K
    try simp only [oTgAdd16, Act.put, sA, sB, sC]
    refine anyM_done (by kernel_rfl) ?_ _
    clear hrun hHeld
    go_wp2_with fail
    go_ret
    refine ⟨_, rfl, T8.out, ?_, ?_, ?_, ?_⟩
    · exact fun x => upd_k G.bl (k := 2) (j := 0) p x (some w2.heap.size) (by decide)
    · intro q x
      dsimp only
      by_cases hq : q = p
      · subst hq; rw [if_pos rfl]; exact ⟨fun h => h.elim (fun e => Or.inr ⟨rfl, e⟩) Or.inl, fun h => h.elim Or.inr (fun e => Or.inl e.2)⟩
      · rw [if_neg hq]; exact ⟨Or.inl, fun h => h.elim id (fun e => absurd e.1 hq)⟩
    · refine (Outs.of_below HB2.out).trans (F := G.F) (HU1.out.trans HU8.out (fun x hx e => by have := HMM.out; omega)) (fun x _ e => by rw [e]; exact ⟨0, p, HPB.out⟩)
    · intro x hx
      rcases F_upd (G := G) x hx with h3 | h3
      · exact Or.inl h3
      · exact Or.inr (by have := HB2.out.size; omega)
end
end Go.Proofs.YtipdmfnkkkdlbaaGreatDoor
