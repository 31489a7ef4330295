/-
  ids' statements: takes, same, again, awake; the calls on a pool of the call's own.
-/
import Derived.Test.YtckgglgecpmikaaDoorIdAll
set_option linter.unusedSimpArgs false
set_option linter.unusedVariables false
namespace Go.Proofs.YtckgglgecpmikaaDoor
section
open Go.RowKit
def oIdHelp1 : Oper := ({ dst := some 17, op := Go.Op.move (Go.Operand.tmp 0), type := 30, pos := "law.go:35", after := #[], guard := none } : Oper)
def oIdHelp2 : Oper := ({ dst := some 18, op := Go.Op.move (Go.Operand.tmp 5), type := 3, pos := "law.go:35", after := #[], guard := none } : Oper)
def oIdHelp3 : Oper := ({ dst := some 19, op := Go.Op.indexAddr 30 (Go.Operand.tmp 17) (Go.Operand.tmp 18), type := 0, pos := "law.go:35", after := #[{ on := 0, ground := Go.Ground.data }, { on := 1, ground := Go.Ground.data }], guard := none } : Oper)
def oIdHelp4 : Oper := ({ dst := some 20, op := Go.Op.load 25 (Go.Operand.tmp 19), type := 25, pos := "law.go:35", after := #[{ on := 2, ground := Go.Ground.data }], guard := none } : Oper)
def oIdHelp5 : Oper := ({ dst := some 21, op := Go.Op.move (Go.Operand.tmp 1), type := 30, pos := "law.go:35", after := #[], guard := none } : Oper)
def oIdHelp6 : Oper := ({ dst := some 22, op := Go.Op.move (Go.Operand.tmp 5), type := 3, pos := "law.go:35", after := #[], guard := none } : Oper)
def oIdHelp7 : Oper := ({ dst := some 23, op := Go.Op.indexAddr 30 (Go.Operand.tmp 21) (Go.Operand.tmp 22), type := 0, pos := "law.go:35", after := #[{ on := 4, ground := Go.Ground.data }, { on := 5, ground := Go.Ground.data }], guard := none } : Oper)
def oIdHelp8 : Oper := ({ dst := some 24, op := Go.Op.load 25 (Go.Operand.tmp 23), type := 25, pos := "law.go:35", after := #[{ on := 6, ground := Go.Ground.data }], guard := none } : Oper)
def oIdHelp9 : Oper := ({ dst := some 25, op := Go.Op.binOp Go.BinOp.neq 25 (Go.Operand.tmp 20) (Go.Operand.tmp 24) 25, type := 4, pos := "law.go:35", after := #[{ on := 3, ground := Go.Ground.data }, { on := 7, ground := Go.Ground.data }], guard := none } : Oper)
end
open Go.RowKit

theorem Lst.of {L : List Nat} {id : Nat} (h : 1 ≤ id ∧ id ∉ L ∧ ∀ i, i < id → 1 ≤ i → i ∈ L) : Lst L id := ⟨h.1, h.2.1, fun i h1 h2 => h.2.2 i h2 h1⟩
theorem vals_new (w : World) (cs : Array Value) (t : TypeId) (fr : Nat × Nat) (n : Nat) (hn : cs.size = n) : Vals (w.alloc (.cells cs t fr)) (some ⟨w.heap.size, 0, none⟩) n cs.toList := by
  refine ⟨by simpa using hn, fun _ => ⟨_, _, rfl, fun j x hx => ?_⟩⟩
  rw [Nat.zero_add, World.cell?_alloc_mark]
  simpa using hx
section
variable {w w' : World} {t : Nat} {F : Nat → Prop} {L : List Nat}
theorem iFree0 (h : PI w t F L) (id : Nat) (hid : id ≤ 65535) (hr : decide (id ∈ L) = false) :
    Calls Tryd.prog 12 #[.pointer (some ⟨t, 0, none⟩), .int .u16 (id : Nat)] w fun e w' => e = .returned (.bool false) ∧ Below w.heap.size w w' := by
  have HP := Lib.hid h
  have HR := Lib.hid hr
  clear h hr
  go_enter Tryd.func12, Tryd.ntmps12
  go_wp2_with fail
  refine (iHas HP.out id false hid HR.out).mono ?_
  rintro e w1 ⟨rfl, hb1⟩
  go_wp2_with fail
  go_ret
  exact ⟨rfl, hb1⟩
theorem takes_any (h : PI w t F L) (hG : GloT w) (id : Nat) (M : List Nat) (hl : L.length < 65535) (hid : Lst L id) (hM : insO ltN id L = M) :
    Calls Tryd.prog 9 #[.pointer (some ⟨t, 0, none⟩), .int .u16 (id : Nat)] w fun e w' => FrP w t F M true e w' := by
  have HP := Lib.hid h
  have HG := Lib.hid hG
  have HI := Lib.hid hid
  have HM := Lib.hid hM
  clear h hG hid hM
  go_enter Tryd.func9, Tryd.ntmps9
  go_wp2_with fail
  refine (iTake HP.out HG.out id M hl HI.out HM.out).mono ?_
  rintro e w1 ⟨F1, rfl, hP1, hU1, hF1⟩
  have heq : ((id : Int) == (id : Int)) = true := by simp
  go_wp2_with fail
  go_ret
  exact ⟨F1, rfl, hP1, hU1, hF1⟩
/-- One call more on a pool of the call's own. -/
theorem fr_step {w1 w2 : World} {M : List Nat} {r : Bool} {e : Ending} {B : Nat} {w0 : World} (hb : Below B w0 w1) (hB : B ≤ w1.heap.size) (hF : ∀ b, F b → B ≤ b) (h : FrP w1 t F M r e w2) : ∃ F', e = .returned (.bool r) ∧ PI w2 t F' M ∧ Below B w0 w2 ∧ (∀ b, F' b → B ≤ b) ∧ B ≤ w2.heap.size := by
  obtain ⟨F', he, hP, hU, hV⟩ := h
  refine ⟨F', he, hP, hb.trans (hU.below (B := B) (fun b _ h => hF b h) hB), fun b h => ?_, Nat.le_trans hB hU.size⟩
  rcases hV b h with h2 | h2
  · exact hF b h2
  · omega
theorem tk_step {w1 w2 : World} {M : List Nat} {id : Nat} {e : Ending} {B : Nat} {w0 : World} (hb : Below B w0 w1) (hB : B ≤ w1.heap.size) (hF : ∀ b, F b → B ≤ b) (h : TkP w1 t F id M e w2) : ∃ F', e = .returned (.tuple #[.int .u16 (id : Nat), .int .i64 0]) ∧ PI w2 t F' M ∧ Below B w0 w2 ∧ (∀ b, F' b → B ≤ b) ∧ B ≤ w2.heap.size := by
  obtain ⟨F', he, hP, hU, hV⟩ := h
  refine ⟨F', he, hP, hb.trans (hU.below (B := B) (fun b _ h => hF b h) hB), fun b h => ?_, Nat.le_trans hB hU.size⟩
  rcases hV b h with h2 | h2
  · exact hF b h2
  · omega
end
/-- A pool of the call's own. -/
structure OwnP (B : Nat) (w0 w : World) (t : Nat) (F : Nat → Prop) (L : List Nat) : Prop where
  pi : PI w t F L
  below : Below B w0 w
  own : ∀ b, F b → B ≤ b
  size : B ≤ w.heap.size
section
variable {B t : Nat} {w0 w w' : World} {F : Nat → Prop} {L M : List Nat} {e : Ending}
theorem OwnP.bl (h : OwnP B w0 w t F L) (hb : Below w.heap.size w w') : OwnP B w0 w' t F L := ⟨h.pi.below hb, h.below.trans (hb.mono h.size), h.own, Nat.le_trans h.size hb.size⟩
theorem OwnP.next {F' : Nat → Prop} (h : OwnP B w0 w t F L) (hP : PI w' t F' M) (hU : Outs w w' F) (hV : ∀ x, F' x → F x ∨ w.heap.size ≤ x) : OwnP B w0 w' t F' M :=
  ⟨hP, h.below.trans (hU.below (B := B) (fun b _ hf => h.own b hf) h.size), fun b hb => by
    rcases hV b hb with h2 | h2
    · exact h.own b h2
    · have := h.size; omega, Nat.le_trans h.size hU.size⟩
theorem OwnP.fr {r : Bool} (h : OwnP B w0 w t F L) (k : FrP w t F M r e w') : ∃ F', e = .returned (.bool r) ∧ OwnP B w0 w' t F' M := by
  obtain ⟨F', he, hP, hU, hV⟩ := k
  exact ⟨F', he, h.next hP hU hV⟩
theorem OwnP.tk {id : Nat} (h : OwnP B w0 w t F L) (k : TkP w t F id M e w') : ∃ F', e = .returned (.tuple #[.int .u16 (id : Nat), .int .i64 0]) ∧ OwnP B w0 w' t F' M := by
  obtain ⟨F', he, hP, hU, hV⟩ := k
  exact ⟨F', he, h.next hP hU hV⟩
theorem NI.own {w : World} {e : Ending} (h : NI w e w') : ∃ t F, e = .returned (.pointer (some ⟨t, 0, none⟩)) ∧ OwnP w.heap.size w w' t F [] := by
  obtain ⟨t, F, he, hT, hb, hF⟩ := h
  exact ⟨t, F, he, hT, hb, hF, hb.size⟩
end
set_option maxHeartbeats 1000000 in
theorem same_any (A : Option Addr) (n c : Nat) (C : Option Addr) (m d : Nat) (L : List Nat) (w : World) (h1 : Vals w A n (L.map u16V)) (h2 : Vals w C m (L.map u16V)) (hl : L.length ≤ 1000000) :
    Calls Tryd.prog 20 #[.slice A n c, .slice C m d] w fun e w' => e = .returned (.bool true) ∧ Below w.heap.size w w' := by
  have hn : n = L.length := by have := h1.len; rw [List.length_map] at this; exact this.symm
  have hm : m = L.length := by have := h2.len; rw [List.length_map] at this; exact this.symm
  subst hn
  subst hm
  have H1 := Lib.hid h1
  have H2 := Lib.hid h2
  clear h1 h2
  have hne : ((L.length : Int) != (L.length : Int)) = false := by simp
  go_enter Tryd.func20, Tryd.ntmps20
  go_wp2_with fail
  clear hne
  go_loopw [5] (fun i wr => ∃ k : Nat, i = .int .i64 k ∧ k ≤ L.length ∧ Below w.heap.size w wr) (fun i _ => L.length - (intOf i).toNat)
  case atStart => exact ⟨0, rfl, by omega, Below.refl _ _⟩
  case round =>
    obtain ⟨k, rfl, hk, hb⟩ := hrel
    by_cases hlt : k < L.length
    · obtain ⟨b, o, x, rfl, hx, hcx⟩ := (H1.out.below hb).at_ hlt
      obtain ⟨b2, o2, y, rfl, hy, hcy⟩ := (H2.out.below hb).at_ hlt
      rw [hx] at hy
      cases hy
      rw [List.getElem?_map, Option.map_eq_some_iff] at hx
      obtain ⟨z, _, rfl⟩ := hx
      unfold u16V at hcx hcy
      have hzz : ((z : Int) != (z : Int)) = false := by simp
      have hkI : (k : Int) < (L.length : Int) := by omega
      have hk0 : (0 : Int) ≤ (k : Int) := by omega
      go_wp2_with fail
      refine wp_region_held_drew (S := (fun w' => w'.cell? ⟨b, o + k, none⟩ = some (.int .u16 (z : Int)) ∧ w'.cell? ⟨b2, o2 + k, none⟩ = some (.int .u16 (z : Int)))) (by kernel_rfl) (⟨hcx, hcy⟩) (fun hHeld => ?_)
      refine tkY 0 oIdHelp1 ?vv2_2_0 rfl (by kernel_rfl) (by kernel_rfl) (by kernel_rfl) (fun _ _ _ h => h) (by rfl) ?hy2_2_0 (by assumption) ?rest2_2_0
      case hy2_2_0 => (intro w hSw; unfold oIdHelp1; (try dsimp only at hSw); (try go_split_ands); go_simp; all_goals with_reducible rfl)
      try simp only [oIdHelp1, Act.put, sA, sB, sC]
      refine tkY 1 oIdHelp2 ?vv2_2_1 rfl (by kernel_rfl) (by kernel_rfl) (by kernel_rfl) (fun _ _ _ h => h) (by rfl) ?hy2_2_1 (by assumption) ?rest2_2_1
      case hy2_2_1 => (intro w hSw; unfold oIdHelp2; (try dsimp only at hSw); (try go_split_ands); go_simp; all_goals with_reducible rfl)
      try simp only [oIdHelp2, Act.put, sA, sB, sC]
      refine tkY 2 oIdHelp3 ?vv2_2_2 rfl (by kernel_rfl) (by kernel_rfl) (by kernel_rfl) (fun _ _ _ h => h) (by rfl) ?hy2_2_2 (by assumption) ?rest2_2_2
      case hy2_2_2 => (intro w hSw; unfold oIdHelp3; (try dsimp only at hSw); (try go_split_ands); go_simp; all_goals with_reducible rfl)
      try simp only [oIdHelp3, Act.put, sA, sB, sC]
      refine tkY 3 oIdHelp4 ?vv2_3_3 rfl (by kernel_rfl) (by kernel_rfl) (by kernel_rfl) (fun _ _ _ h => h) (by rfl) ?hy2_3_3 (by assumption) ?rest2_3_3
      case hy2_3_3 => (intro w hSw; unfold oIdHelp4; (try dsimp only at hSw); have q9 := hSw.1; clear hSw; go_simp; all_goals with_reducible rfl)
      try simp only [oIdHelp4, Act.put, sA, sB, sC]
      refine tkY 4 oIdHelp5 ?vv2_4_4 rfl (by kernel_rfl) (by kernel_rfl) (by kernel_rfl) (fun _ _ _ h => h) (by rfl) ?hy2_4_4 (by assumption) ?rest2_4_4
      case hy2_4_4 => (intro w hSw; unfold oIdHelp5; (try dsimp only at hSw); (try go_split_ands); go_simp; all_goals with_reducible rfl)
      try simp only [oIdHelp5, Act.put, sA, sB, sC]
      refine tkY 5 oIdHelp6 ?vv2_4_5 rfl (by kernel_rfl) (by kernel_rfl) (by kernel_rfl) (fun _ _ _ h => h) (by rfl) ?hy2_4_5 (by assumption) ?rest2_4_5
      case hy2_4_5 => (intro w hSw; unfold oIdHelp6; (try dsimp only at hSw); (try go_split_ands); go_simp; all_goals with_reducible rfl)
      try simp only [oIdHelp6, Act.put, sA, sB, sC]
      refine tkY 6 oIdHelp7 ?vv2_4_6 rfl (by kernel_rfl) (by kernel_rfl) (by kernel_rfl) (fun _ _ _ h => h) (by rfl) ?hy2_4_6 (by assumption) ?rest2_4_6
      case hy2_4_6 => (intro w hSw; unfold oIdHelp7; (try dsimp only at hSw); (try go_split_ands); go_simp; all_goals with_reducible rfl)
      try simp only [oIdHelp7, Act.put, sA, sB, sC]
      refine tkY 7 oIdHelp8 ?vv2_5_7 rfl (by kernel_rfl) (by kernel_rfl) (by kernel_rfl) (fun _ _ _ h => h) (by rfl) ?hy2_5_7 (by assumption) ?rest2_5_7
      case hy2_5_7 => (intro w hSw; unfold oIdHelp8; (try dsimp only at hSw); have q9 := hSw.2; clear hSw; go_simp; all_goals with_reducible rfl)
      try simp only [oIdHelp8, Act.put, sA, sB, sC]
      refine tkY 8 oIdHelp9 ?vv2_6_8 rfl (by kernel_rfl) (by kernel_rfl) (by kernel_rfl) (fun _ _ _ h => h) (by rfl) ?hy2_6_8 (by assumption) ?rest2_6_8
      case hy2_6_8 => (intro w hSw; unfold oIdHelp9; (try dsimp only at hSw); (try go_split_ands); go_simp; all_goals with_reducible rfl)
      try simp only [oIdHelp9, Act.put, sA, sB, sC]
      refine wpAnyH_done (by kernel_rfl) ?_ _
      have hb2 := hb.drew
      clear hHeld
      go_wp2_with fail
      go_roundw
      case rel => exact ⟨k + 1, by go_num, by omega, hb2⟩
      case measure => simp [intOf]; omega
    · obtain rfl : k = L.length := by omega
      go_wp2_with fail
      go_ret
      exact ⟨rfl, hb⟩
theorem again_eq (A : Option Addr) (n c : Nat) (l : List Nat) (id : Nat) (r : Bool) (w : World) (h1 : Vals w A n (l.map u16V)) (hl : n ≤ 1000000) (hr : decide (id ∈ l) = r) :
    Calls Tryd.prog 22 #[.slice A n c, .int .u16 (id : Nat)] w fun e w' => e = .returned (.bool r) ∧ w = w' := by
  have hn : n = l.length := by have := h1.len; rw [List.length_map] at this; exact this.symm
  subst hn
  have H1 := Lib.hid h1
  have HR := Lib.hid hr
  clear h1 hr
  go_enter Tryd.func22, Tryd.ntmps22
  go_wp2_with fail
  go_loopw [5] (fun i wr => ∃ k : Nat, i = .int .i64 k ∧ k ≤ l.length ∧ w = wr ∧ Hid (∀ x ∈ l.take k, x ≠ id)) (fun i _ => l.length - (intOf i).toNat)
  case atStart => exact ⟨0, rfl, by omega, rfl, fun x hx => by simp at hx⟩
  case round =>
    obtain ⟨k, rfl, hk, rfl, hno⟩ := hrel
    by_cases hlt : k < l.length
    · obtain ⟨b, o, x, rfl, hx, hcx⟩ := H1.out.at_ hlt
      rw [List.getElem?_map, Option.map_eq_some_iff] at hx
      obtain ⟨z, hz, rfl⟩ := hx
      unfold u16V at hcx
      have hkI : (k : Int) < (l.length : Int) := by omega
      have hk0 : (0 : Int) ≤ (k : Int) := by omega
      by_cases he : z = id
      · have hzz : ((z : Int) == (id : Int)) = true := by simp [he]
        have hR : Hid (true = r) := by show _ = _; rw [← HR.out]; symm; apply decide_eq_true; rw [← he]; exact List.mem_of_getElem? hz
        clear hz he
        go_wp2_with fail
        go_ret
        exact ⟨by rw [← hR.out]; rfl, rfl⟩
      · have hzz : ((z : Int) == (id : Int)) = false := by simp; omega
        have hN : Hid (∀ x ∈ l.take (k + 1), x ≠ id) := fun x hx => by
          rw [List.take_add_one, hz] at hx
          rcases List.mem_append.1 hx with hx | hx
          · exact hno.out x hx
          · simp at hx; rw [hx]; exact he
        clear hz
        go_wp2_with fail
        go_roundw
        case rel => exact ⟨k + 1, by go_num, by omega, trivial, hN⟩
        case measure => simp [intOf]; omega
    · obtain rfl : k = l.length := by omega
      have hR : Hid (false = r) := by
        show _ = _
        rw [← HR.out]; symm; apply decide_eq_false
        intro hm
        have := hno.out id (by rw [List.take_of_length_le (by omega)]; exact hm)
        exact this rfl
      go_wp2_with fail
      go_ret
      exact ⟨by rw [← hR.out]; rfl, rfl⟩
theorem aw1 : insO ltN 1 [] = [1] := by decide +kernel
theorem aw2 : insO ltN 2 [1] = [1, 2] := by decide +kernel
theorem aw3 : insO ltN 3 [1, 2] = [1, 2, 3] := by decide +kernel
theorem aw4 : delN 2 [1, 2, 3] = [1, 3] := by decide +kernel
theorem aw5 : insO ltN 2 [1, 3] = [1, 2, 3] := by decide +kernel
theorem aw6 : insO ltN 4 [1, 2, 3] = [1, 2, 3, 4] := by decide +kernel
set_option maxRecDepth 100000 in
set_option maxHeartbeats 2000000 in
theorem awake_any (w : World) (hG : GloT w) : Calls Tryd.prog 15 #[] w fun e w' => e = .returned (.bool true) ∧ Below w.heap.size w w' := by
  have HG := Lib.hid hG
  clear hG
  go_enter Tryd.func15, Tryd.ntmps15
  go_wp2_with fail
  refine (iNew _).mono ?_
  rintro e w0 ⟨t, F0, rfl, hT0, hb0, hF0⟩
  have hB0 := hb0.size
  go_wp2_with fail
  refine (takes_any hT0 (HG.out.below hb0) 1 _ (by decide) (Lst.of (by decide)) aw1).mono ?_
  rintro e w1 hK
  obtain ⟨F1, rfl, hT1, hb1, hF1, hB1⟩ := fr_step hb0 hB0 hF0 hK
  clear hT0 hb0 hF0 hK hB0
  go_wp2_with fail
  refine (takes_any hT1 (HG.out.below hb1) 2 _ (by decide) (Lst.of (by decide)) aw2).mono ?_
  rintro e w2 hK
  obtain ⟨F2, rfl, hT2, hb2, hF2, hB2⟩ := fr_step hb1 hB1 hF1 hK
  clear hT1 hb1 hF1 hK hB1
  go_wp2_with fail
  refine (takes_any hT2 (HG.out.below hb2) 3 _ (by decide) (Lst.of (by decide)) aw3).mono ?_
  rintro e w3 hK
  obtain ⟨F3, rfl, hT3, hb3, hF3, hB3⟩ := fr_step hb2 hB2 hF2 hK
  clear hT2 hb2 hF2 hK hB2
  go_wp2_with fail
  refine (iFree_any hT3 2 true (by decide) (by decide)).mono ?_
  rw [aw4]
  rintro e w4 hK
  obtain ⟨F4, rfl, hT4, hb4, hF4, hB4⟩ := fr_step hb3 hB3 hF3 hK
  clear hT3 hb3 hF3 hK hB3
  go_wp2_with fail
  refine (takes_any hT4 (HG.out.below hb4) 2 _ (by decide) (Lst.of (by decide)) aw5).mono ?_
  rintro e w5 hK
  obtain ⟨F5, rfl, hT5, hb5, hF5, hB5⟩ := fr_step hb4 hB4 hF4 hK
  clear hT4 hb4 hF4 hK hB4
  go_wp2_with fail
  refine (takes_any hT5 (HG.out.below hb5) 4 _ (by decide) (Lst.of (by decide)) aw6).mono ?_
  rintro e w6 hK
  obtain ⟨F6, rfl, hT6, hb6, hF6, hB6⟩ := fr_step hb5 hB5 hF5 hK
  have HT6 := Lib.hid hT6
  clear hT5 hb5 hF5 hK hB5 hT6 hF6 hB6
  go_wp2_with fail
  refine (all_any (fun W hW => iAll (HT6.out.below hW)) (HG.out.below hb6)).mono ?_
  rintro e w7 ⟨A, c, rfl, hV, hc, hb7⟩
  have HV := Lib.hid hV
  have HT7 := Lib.hid (HT6.out.below hb7)
  replace hb6 := below_more hb6 hb7
  clear hV hc hb7 HT6
  go_wp2_with fail
  refine (iHas HT7.out 4 true (by decide) (by decide)).mono ?_
  rintro e w8 ⟨rfl, hb8⟩
  have HT8 := Lib.hid (HT7.out.below hb8)
  replace hb6 := below_more hb6 hb8
  go_wp2_with fail
  refine (iHas HT8.out 5 false (by decide) (by decide)).mono ?_
  rintro e w9 ⟨rfl, hb9⟩
  have HT9 := Lib.hid (HT8.out.below hb9)
  replace hb6 := below_more hb6 hb9
  replace hb8 := below_more hb8 hb9
  go_wp2_with fail
  refine (iHas HT9.out 0 false (by decide) (by decide)).mono ?_
  rintro e w10 ⟨rfl, hb10⟩
  have HT10 := Lib.hid (HT9.out.below hb10)
  replace hb6 := below_more hb6 hb10
  replace hb8 := below_more hb8 hb10
  go_wp2_with fail
  refine (iFree0 HT10.out 5 (by decide) (by decide)).mono ?_
  rintro e w11 ⟨rfl, hb11⟩
  have HT11 := Lib.hid (HT10.out.below hb11)
  replace hb6 := below_more hb6 hb11
  replace hb8 := below_more hb8 hb11
  go_wp2_with fail
  refine (iLen HT11.out).mono ?_
  rintro e w12 ⟨rfl, rfl⟩
  go_wp2_with fail
  have hbA := below_alloc (below_more hb6 (Below.refl _ w11)) (.cells #[.int .u16 1, .int .u16 2, .int .u16 3, .int .u16 4] 25)
  have hV1 := (HV.out.below hb8).below (below_alloc (Below.refl w11.heap.size w11) (.cells #[.int .u16 1, .int .u16 2, .int .u16 3, .int .u16 4] 25))
  refine (same_any A _ c _ _ 4 [1, 2, 3, 4] _ hV1 (vals_new w11 #[.int .u16 1, .int .u16 2, .int .u16 3, .int .u16 4] 25 (0, 0) 4 rfl) (by decide)).mono ?_
  rintro e w13 ⟨rfl, hb13⟩
  go_wp2_with fail
  go_ret
  exact ⟨rfl, below_more hbA hb13⟩
end Go.Proofs.YtckgglgecpmikaaDoor
