/-
  trie: walk, for both visits.
-/
import Derived.Test.YtipdmfnkkkdlbaaGreatDoorTgVis
set_option linter.unusedSimpArgs false
set_option linter.unusedVariables false
namespace Go.Proofs.YtipdmfnkkkdlbaaGreatDoor
section
open Go.RowKit
def oTgWalk21 : Oper := ({ dst := some 8, op := Go.Op.load 78 (Go.Operand.tmp 4), type := 78, pos := "trie.go:200", after := #[], guard := none } : Oper)
def oTgWalk22 : Oper := ({ dst := some 9, op := Go.Op.move (Go.Operand.tmp 0), type := 25, pos := "trie.go:200", after := #[], guard := none } : Oper)
def oTgWalk23 : Oper := ({ dst := some 10, op := Go.Op.nilCheck (Go.Operand.tmp 9), type := 0, pos := "trie.go:200", after := #[{ on := 1, ground := Go.Ground.data }], guard := none } : Oper)
def oTgWalk24 : Oper := ({ dst := some 11, op := Go.Op.fieldAddr 55 (Go.Operand.tmp 10) 0, type := 0, pos := "trie.go:200", after := #[{ on := 2, ground := Go.Ground.data }], guard := none } : Oper)
def oTgWalk25 : Oper := ({ dst := some 12, op := Go.Op.call { callee := Go.Callee.value (Go.Operand.tmp 8), args := #[Go.Operand.tmp 11, Go.Operand.const (Go.Value.slice none 0 0)], argTypes := #[57, 36] }, type := 0, pos := "trie.go:200", after := #[{ on := 0, ground := Go.Ground.data }, { on := 3, ground := Go.Ground.data }], guard := none } : Oper)
end
open Go.RowKit Go.Maps

theorem ownBlock_nil : (Value.slice none 0 0).ownBlock = none := rfl
section
variable {α : Type} {w : World} {t : Nat} {G : TG} {h ii : Int}
set_option maxHeartbeats 4000000 in
set_option maxRecDepth 100000 in
theorem walkAll_any (Acc : World → List α → (Nat → Prop) → Prop) (hAO : AccOk Acc) (own : Pth → α → Prop) (hinj : ∀ p q y, own p y → own q y → p = q) (Z : List α) (pl : Nat) (hoz : ∀ p y, own p y → y ∈ Z) (hdep : ∀ q, G.bl 0 q ≠ none → q.length ≤ 1000 ∧ ∀ x ∈ q, x.length ≤ 1000)
    (HV : ∀ B, VisOkAll Acc own G t h ii B Z pl) (hT : TR w t G h ii) (R : Nat → Prop) (hA : Acc w [] R) (hRF : ∀ x, R x → ¬ G.F x) :
    Calls Tryz.prog 32 #[.pointer (some ⟨t, 0, none⟩), .func (.func 33) #[] #[.pointer (some ⟨pl, 0, none⟩)]] w fun e w' => VQ Acc w R (fun y => UnP G own [] y) R e w' := by
  have HT := Lib.hid hT
  have HA := Lib.hid hA
  have HVV := Lib.hid HV
  clear hT hA HV
  go_enter Tryz.func32, Tryz.ntmps32
  go_wp2_with fail
  obtain ⟨gv, hgv⟩ : ∃ gv, gv = Value.func (.func 33) #[] #[.pointer (some ⟨pl, 0, none⟩)] := ⟨_, rfl⟩
  rw [← hgv]
  obtain ⟨gf, hgf⟩ : ∃ gf, gf = Value.func (.func 60) #[] #[.pointer (some ⟨w.heap.size, 0, none⟩), .pointer (some ⟨w.heap.size + 1, 0, none⟩)] := ⟨_, rfl⟩
  rw [← hgf]
  obtain ⟨W, hW⟩ : ∃ W, W = (w.alloc (.cells #[gv] 59)).alloc (.cells #[gf] 78) := ⟨_, rfl⟩
  rw [← hW]
  have k2 : W.cell? ⟨w.heap.size, 0, none⟩ = some gv := by rw [hW]; go_simp
  have k3 : W.cell? ⟨w.heap.size + 1, 0, none⟩ = some gf := by rw [hW]; go_simp
  have hbW : Below w.heap.size w W := by rw [hW]; exact below_alloc (below_alloc (Below.refl _ _) _) _
  have hsW : W.heap.size = w.heap.size + 2 := by rw [hW]; simp
  have HTW := Lib.hid (HT.out.below hbW)
  have HRlt := Lib.hid (hAO.lt _ _ _ HA.out)
  have HAW : Hid (Acc W [] R) := hAO.keep _ _ _ _ HA.out (fun x hx => hbW.block x (HRlt.out x hx))
  have HK : Hid (WkKAll pl w.heap.size (w.heap.size + 1) W) := ⟨by rw [k2, hgv], by rw [k3, hgf]⟩
  have HBW := Lib.hid hbW
  have HSW := Lib.hid hsW
  have HGF := Lib.hid hgf
  clear hW hgf hgv hbW hsW k2
  have hHeld : Below W.heap.size W W.drew := (Below.refl _ _).drew
  refine region_last (S := (fun w' => Below W.heap.size W w')) (m := 4) (by kernel_rfl) ?_
  have hLast : LastL .any _ 4 := last_chain (ops := #[oTgWalk21, oTgWalk22, oTgWalk23, oTgWalk24, oTgWalk25]) [(0, 4), (3, 4), (2, 3), (1, 2)] (by kernel_rfl)
  refine tkM hLast 0 oTgWalk21 ?vv34_156_0 rfl (by kernel_rfl) (by kernel_rfl) (by kernel_rfl) (by rfl) (fun _ _ _ h => h) (by rfl) ?hy34_156_0 (by assumption) ?rest34_156_0
  case hy34_156_0 => (intro w hSw; unfold oTgWalk21; (try dsimp only at hSw); have q := (hSw.cell (World.block_lt_of_cell? _ _ k3)).trans k3; clear hSw; go_simp; all_goals with_reducible rfl)
  try simp only [oTgWalk21, Act.put, sA, sB, sC]
  refine tkM hLast 1 oTgWalk22 ?vv34_157_1 rfl (by kernel_rfl) (by kernel_rfl) (by kernel_rfl) (by rfl) (fun _ _ _ h => h) (by rfl) ?hy34_157_1 (by assumption) ?rest34_157_1
  case hy34_157_1 => (intro w hSw; unfold oTgWalk22; (try dsimp only at hSw); (try go_split_ands); go_simp; all_goals with_reducible rfl)
  try simp only [oTgWalk22, Act.put, sA, sB, sC]
  refine tkM hLast 2 oTgWalk23 ?vv34_157_2 rfl (by kernel_rfl) (by kernel_rfl) (by kernel_rfl) (by rfl) (fun _ _ _ h => h) (by rfl) ?hy34_157_2 (by assumption) ?rest34_157_2
  case hy34_157_2 => (intro w hSw; unfold oTgWalk23; (try dsimp only at hSw); (try go_split_ands); go_simp; all_goals with_reducible rfl)
  try simp only [oTgWalk23, Act.put, sA, sB, sC]
  refine tkM hLast 3 oTgWalk24 ?vv34_157_3 rfl (by kernel_rfl) (by kernel_rfl) (by kernel_rfl) (by rfl) (fun _ _ _ h => h) (by rfl) ?hy34_157_3 (by assumption) ?rest34_157_3
  case hy34_157_3 => (intro w hSw; unfold oTgWalk24; (try dsimp only at hSw); (try go_split_ands); go_simp; all_goals with_reducible rfl)
  try simp only [oTgWalk24, Act.put, sA, sB, sC]
  rw [HGF.out]
  refine anyM_ready (rs := [4]) (by kernel_rfl) (by simp) ?_
  refine (AllM.cons (o := oTgWalk25) rfl (fun K hK => ?_) AllM.nil)
  unfold oTgWalk25
  go_simp
  (go_at_call 60; refine (fromAll_any Acc hAO own hinj W.heap.size Z pl w.heap.size (w.heap.size + 1) (by have := HSW.out; omega) (by have := HSW.out; omega) (fun x hx => HTW.out.lt x hx) hoz hdep (HVV.out _) 1000 W.drew [] t (.slice none 0 0) [] R (fun _ => False) (fun q hq => by have := (hdep q hq).1; simp; omega) (by simp) HT.out.root (HTW.out.below hHeld) (hAO.keep _ _ _ _ HAW.out (fun _ _ => rfl)) (GoodY.nil (fun _ h => h)) (fun _ h _ => h) (fun _ h => h.elim) (Nat.le_refl _) (LevS.nil _ _) HK.out hRF (fun x _ e => by rw [ownBlock_nil] at e; cases e) (fun x hx => by have := HRlt.out x hx; omega)).mono ?_; rintro e w6 ⟨⟨X6, R6, rfl, hA6, hG6, hU6, hR6⟩, _⟩)
  refine hK.out _ _ (fun hne => absurd rfl hne) ?_
  clear hK K
  try simp only [oTgWalk25, Act.put, sA, sB, sC]
  refine anyM_done (by kernel_rfl) ?_ _
  have HA6 := Lib.hid hA6
  have HG6 := Lib.hid hG6
  have HR6 : Hid (∀ x, R6 x → R x ∨ w.heap.size ≤ x) := fun x hx => (hR6 x hx).imp id (fun h3 => by have h4 : W.heap.size ≤ x := h3; have := HSW.out; omega)
  have HU6 : Hid (Outs w w6 R) := ((Outs.of_below HBW.out).trans ((Outs.of_below hHeld).trans hU6 (fun _ _ h => h)) (fun x _ hx => hx.elim id (fun h => by rw [ownBlock_nil] at h; cases h)))
  clear hA6 hG6 hR6 hU6 hHeld k3
  go_wp2_with fail
  (first | go_end0 | refine bodyPost_ret (results_none rfl _ _ _) rfl ?_)
  exact ⟨X6, R6, rfl, HA6.out, HG6.out.congr fun y => ⟨fun h => h.elim False.elim id, Or.inr⟩, HU6.out, HR6.out⟩
theorem walkNAll (w : World) (pl : Nat) : Calls Tryz.prog 32 #[.pointer none, .func (.func 33) #[] #[.pointer (some ⟨pl, 0, none⟩)]] w fun e w' => e = .returned (.tuple #[]) ∧ Below w.heap.size w w' := by
  have hb := below_alloc (Below.refl w.heap.size w) (.cells #[Value.func (.func 33) #[] #[.pointer (some ⟨pl, 0, none⟩)]] 59)
  have HB := Lib.hid hb
  clear hb
  go_enter Tryz.func32, Tryz.ntmps32
  go_wp2_with fail
  (first | go_end0 | refine bodyPost_ret (results_none rfl _ _ _) rfl ?_)
  exact ⟨rfl, HB.out⟩
end
section
variable {α : Type} {w : World} {t : Nat} {G : TG} {h ii : Int}
set_option maxHeartbeats 4000000 in
set_option maxRecDepth 100000 in
theorem walkOf_any (Acc : World → List α → (Nat → Prop) → Prop) (hAO : AccOk Acc) (own : Pth → α → Prop) (hinj : ∀ p q y, own p y → own q y → p = q) (Z : List α) (pc pl : Nat) (hoz : ∀ p y, own p y → y ∈ Z) (hdep : ∀ q, G.bl 0 q ≠ none → q.length ≤ 1000 ∧ ∀ x ∈ q, x.length ≤ 1000)
    (HV : ∀ B, VisOkOf Acc own G t h ii B Z pc pl) (hT : TR w t G h ii) (R : Nat → Prop) (hA : Acc w [] R) (hRF : ∀ x, R x → ¬ G.F x) :
    Calls Tryz.prog 32 #[.pointer (some ⟨t, 0, none⟩), .func (.func 37) #[] #[.pointer (some ⟨pc, 0, none⟩), .pointer (some ⟨pl, 0, none⟩)]] w fun e w' => VQ Acc w R (fun y => UnP G own [] y) R e w' := by
  have HT := Lib.hid hT
  have HA := Lib.hid hA
  have HVV := Lib.hid HV
  clear hT hA HV
  go_enter Tryz.func32, Tryz.ntmps32
  go_wp2_with fail
  obtain ⟨gv, hgv⟩ : ∃ gv, gv = Value.func (.func 37) #[] #[.pointer (some ⟨pc, 0, none⟩), .pointer (some ⟨pl, 0, none⟩)] := ⟨_, rfl⟩
  rw [← hgv]
  obtain ⟨gf, hgf⟩ : ∃ gf, gf = Value.func (.func 60) #[] #[.pointer (some ⟨w.heap.size, 0, none⟩), .pointer (some ⟨w.heap.size + 1, 0, none⟩)] := ⟨_, rfl⟩
  rw [← hgf]
  obtain ⟨W, hW⟩ : ∃ W, W = (w.alloc (.cells #[gv] 59)).alloc (.cells #[gf] 78) := ⟨_, rfl⟩
  rw [← hW]
  have k2 : W.cell? ⟨w.heap.size, 0, none⟩ = some gv := by rw [hW]; go_simp
  have k3 : W.cell? ⟨w.heap.size + 1, 0, none⟩ = some gf := by rw [hW]; go_simp
  have hbW : Below w.heap.size w W := by rw [hW]; exact below_alloc (below_alloc (Below.refl _ _) _) _
  have hsW : W.heap.size = w.heap.size + 2 := by rw [hW]; simp
  have HTW := Lib.hid (HT.out.below hbW)
  have HRlt := Lib.hid (hAO.lt _ _ _ HA.out)
  have HAW : Hid (Acc W [] R) := hAO.keep _ _ _ _ HA.out (fun x hx => hbW.block x (HRlt.out x hx))
  have HK : Hid (WkKOf pc pl w.heap.size (w.heap.size + 1) W) := ⟨by rw [k2, hgv], by rw [k3, hgf]⟩
  have HBW := Lib.hid hbW
  have HSW := Lib.hid hsW
  have HGF := Lib.hid hgf
  clear hW hgf hgv hbW hsW k2
  have hHeld : Below W.heap.size W W.drew := (Below.refl _ _).drew
  refine region_last (S := (fun w' => Below W.heap.size W w')) (m := 4) (by kernel_rfl) ?_
  have hLast : LastL .any _ 4 := last_chain (ops := #[oTgWalk21, oTgWalk22, oTgWalk23, oTgWalk24, oTgWalk25]) [(0, 4), (3, 4), (2, 3), (1, 2)] (by kernel_rfl)
  refine tkM hLast 0 oTgWalk21 ?vv35_158_0 rfl (by kernel_rfl) (by kernel_rfl) (by kernel_rfl) (by rfl) (fun _ _ _ h => h) (by rfl) ?hy35_158_0 (by assumption) ?rest35_158_0
  case hy35_158_0 => (intro w hSw; unfold oTgWalk21; (try dsimp only at hSw); have q := (hSw.cell (World.block_lt_of_cell? _ _ k3)).trans k3; clear hSw; go_simp; all_goals with_reducible rfl)
  try simp only [oTgWalk21, Act.put, sA, sB, sC]
  refine tkM hLast 1 oTgWalk22 ?vv35_159_1 rfl (by kernel_rfl) (by kernel_rfl) (by kernel_rfl) (by rfl) (fun _ _ _ h => h) (by rfl) ?hy35_159_1 (by assumption) ?rest35_159_1
  case hy35_159_1 => (intro w hSw; unfold oTgWalk22; (try dsimp only at hSw); (try go_split_ands); go_simp; all_goals with_reducible rfl)
  try simp only [oTgWalk22, Act.put, sA, sB, sC]
  refine tkM hLast 2 oTgWalk23 ?vv35_159_2 rfl (by kernel_rfl) (by kernel_rfl) (by kernel_rfl) (by rfl) (fun _ _ _ h => h) (by rfl) ?hy35_159_2 (by assumption) ?rest35_159_2
  case hy35_159_2 => (intro w hSw; unfold oTgWalk23; (try dsimp only at hSw); (try go_split_ands); go_simp; all_goals with_reducible rfl)
  try simp only [oTgWalk23, Act.put, sA, sB, sC]
  refine tkM hLast 3 oTgWalk24 ?vv35_159_3 rfl (by kernel_rfl) (by kernel_rfl) (by kernel_rfl) (by rfl) (fun _ _ _ h => h) (by rfl) ?hy35_159_3 (by assumption) ?rest35_159_3
  case hy35_159_3 => (intro w hSw; unfold oTgWalk24; (try dsimp only at hSw); (try go_split_ands); go_simp; all_goals with_reducible rfl)
  try simp only [oTgWalk24, Act.put, sA, sB, sC]
  rw [HGF.out]
  refine anyM_ready (rs := [4]) (by kernel_rfl) (by simp) ?_
  refine (AllM.cons (o := oTgWalk25) rfl (fun K hK => ?_) AllM.nil)
  unfold oTgWalk25
  go_simp
  (go_at_call 60; refine (fromOf_any Acc hAO own hinj W.heap.size Z pc pl w.heap.size (w.heap.size + 1) (by have := HSW.out; omega) (by have := HSW.out; omega) (fun x hx => HTW.out.lt x hx) hoz hdep (HVV.out _) 1000 W.drew [] t (.slice none 0 0) [] R (fun _ => False) (fun q hq => by have := (hdep q hq).1; simp; omega) (by simp) HT.out.root (HTW.out.below hHeld) (hAO.keep _ _ _ _ HAW.out (fun _ _ => rfl)) (GoodY.nil (fun _ h => h)) (fun _ h _ => h) (fun _ h => h.elim) (Nat.le_refl _) (LevS.nil _ _) HK.out hRF (fun x _ e => by rw [ownBlock_nil] at e; cases e) (fun x hx => by have := HRlt.out x hx; omega)).mono ?_; rintro e w6 ⟨⟨X6, R6, rfl, hA6, hG6, hU6, hR6⟩, _⟩)
  refine hK.out _ _ (fun hne => absurd rfl hne) ?_
  clear hK K
  try simp only [oTgWalk25, Act.put, sA, sB, sC]
  refine anyM_done (by kernel_rfl) ?_ _
  have HA6 := Lib.hid hA6
  have HG6 := Lib.hid hG6
  have HR6 : Hid (∀ x, R6 x → R x ∨ w.heap.size ≤ x) := fun x hx => (hR6 x hx).imp id (fun h3 => by have h4 : W.heap.size ≤ x := h3; have := HSW.out; omega)
  have HU6 : Hid (Outs w w6 R) := ((Outs.of_below HBW.out).trans ((Outs.of_below hHeld).trans hU6 (fun _ _ h => h)) (fun x _ hx => hx.elim id (fun h => by rw [ownBlock_nil] at h; cases h)))
  clear hA6 hG6 hR6 hU6 hHeld k3
  go_wp2_with fail
  (first | go_end0 | refine bodyPost_ret (results_none rfl _ _ _) rfl ?_)
  exact ⟨X6, R6, rfl, HA6.out, HG6.out.congr fun y => ⟨fun h => h.elim False.elim id, Or.inr⟩, HU6.out, HR6.out⟩
theorem walkNOf (w : World) (pc pl : Nat) : Calls Tryz.prog 32 #[.pointer none, .func (.func 37) #[] #[.pointer (some ⟨pc, 0, none⟩), .pointer (some ⟨pl, 0, none⟩)]] w fun e w' => e = .returned (.tuple #[]) ∧ Below w.heap.size w w' := by
  have hb := below_alloc (Below.refl w.heap.size w) (.cells #[Value.func (.func 37) #[] #[.pointer (some ⟨pc, 0, none⟩), .pointer (some ⟨pl, 0, none⟩)]] 59)
  have HB := Lib.hid hb
  clear hb
  go_enter Tryz.func32, Tryz.ntmps32
  go_wp2_with fail
  (first | go_end0 | refine bodyPost_ret (results_none rfl _ _ _) rfl ?_)
  exact ⟨rfl, HB.out⟩
end
end Go.Proofs.YtipdmfnkkkdlbaaGreatDoor
