/-
  TextKnown: the chapter's examples.
-/
import Derived.Test.YteanfkgnhjmodaaTextLaw
import Derived.Laws.MakeOwn
import Derived.Laws.OwnMore
import Derived.StillTailTactics
import Derived.Deep.RegionHeld3
import Derived.IntWalk
set_option linter.unusedSimpArgs false
set_option linter.unusedVariables false
namespace Go.Proofs.Yteanfkgnhjmodaa
open Go.RowKit

def goodL : List (List UInt8) := [[], [97], [1], [127], [194, 128], [223, 191], [224, 160, 128], [226, 130, 172], [237, 159, 191], [238, 128, 128], [239, 191, 189], [239, 191, 191], [240, 144, 128, 128], [240, 159, 152, 128], [244, 143, 191, 191]]
def badL : List (List UInt8) := [[0], [97, 0], [195], [169], [192, 128], [193, 191], [224, 128, 128], [224, 159, 191], [237, 160, 128], [237, 191, 191], [240, 143, 191, 191], [244, 144, 128, 128], [245, 128, 128, 128], [255], [254], [226, 130], [240, 159, 152], [226, 40, 161], [195, 40], [239, 191], [248, 136, 128, 128, 128]]
theorem good_facts : ∀ k : Nat, k < 15 → ∀ x, goodL[k]? = some x → valB x = true ∧ cntR x = min (k : Int) 1 ∧ cntR (x ++ [122] ++ x) = 1 + 2 * min (k : Int) 1 ∧ x.length ≤ 5 := by
  intro k hk x hx
  have h : ∀ k : Fin 15, ∀ x, goodL[k.val]? = some x → valB x = true ∧ cntR x = min (k.val : Int) 1 ∧ cntR (x ++ [122] ++ x) = 1 + 2 * min (k.val : Int) 1 ∧ x.length ≤ 5 := by
    intro k x hx
    have h2 : goodL[k.val]? = some (goodL[k.val]'k.isLt) := List.getElem?_eq_getElem k.isLt
    rw [h2] at hx
    cases hx
    revert k
    decide
  exact h ⟨k, hk⟩ x hx
theorem bad_facts : ∀ k : Nat, k < 21 → ∀ x, badL[k]? = some x → valB x = false ∧ cntR ([97] ++ x ++ [98]) = -1 ∧ getR ([0] ++ [toB (x.length : Int)] ++ x) = ([], 0, 5) ∧ x.length ≤ 5 := by
  intro k hk x hx
  have h : ∀ k : Fin 21, ∀ x, badL[k.val]? = some x → valB x = false ∧ cntR ([97] ++ x ++ [98]) = -1 ∧ getR ([0] ++ [toB (x.length : Int)] ++ x) = ([], 0, 5) ∧ x.length ≤ 5 := by
    intro k x hx
    have h2 : badL[k.val]? = some (badL[k.val]'k.isLt) := List.getElem?_eq_getElem k.isLt
    rw [h2] at hx
    cases hx
    revert k
    decide
  exact h ⟨k, hk⟩ x hx

def xL (n : Nat) : List UInt8 := List.replicate n 120
theorem xL_len (n : Nat) : (xL n).length = n := by simp [xL]
theorem xL_cnt (n : Nat) (h : n ≤ 65535) : cntR (xL n) = n := by
  rw [cntR_small _ (by rw [xL_len]; omega), cntI_some (xL n) n (cntT_rep 120 (by decide) (by decide) n)]
theorem xL_val (n : Nat) (h : n ≤ 65535) : valB (xL n) = true := by
  unfold valB; rw [xL_cnt n h]; simp
theorem xL_no (n : Nat) (h : 65535 < n) : valB (xL n) = false := by
  unfold valB; rw [cntR_great _ (by rw [xL_len]; omega)]; rfl
theorem put1_yes (a : List UInt8) (h : valB a = true) : putR [a] = (fieldL a, 0) := by
  rw [put_yes [a] (by simp [h])]; simp
def bigN : Nat := 65536
theorem bigN_eq : bigN = 65536 := rfl
def fillL (k : Nat) : List UInt8 := List.replicate k 120 ++ List.replicate (65536 - k) 0
theorem fillL_len (k : Nat) (h : k ≤ 65536) : (fillL k).length = 65536 := by simp [fillL]; omega
theorem fillL_next (k : Nat) (h : k < 65536) : (bcells (fillL k)).set k (.int .u8 120) = bcells (fillL (k + 1)) := by
  have e : (Value.int .u8 120) = (fun b : UInt8 => Value.int .u8 (b.toNat : Int)) 120 := rfl
  unfold bcells
  rw [e, ← List.map_set]
  congr 1
  apply List.ext_getElem?
  intro j
  simp only [fillL, List.getElem?_set, List.length_append, List.length_replicate, List.getElem?_append, List.getElem?_replicate]
  by_cases h1 : k = j
  · subst h1; simp; omega
  · simp only [h1, if_false]
    by_cases h2 : j < k
    · simp only [h2, if_true]
      rw [if_pos (by omega), if_pos (by omega)]
    · have h3 : ¬ j < k + 1 := by omega
      simp only [h2, h3, if_false]
      by_cases h4 : j < 65536
      · rw [if_pos (by omega), if_pos (by omega)]
      · rw [if_neg (by omega), if_neg (by omega)]
theorem fillL_end : fillL 65536 = xL 65536 := by
  unfold fillL xL
  rw [Nat.sub_self]
  exact List.append_nil (List.replicate 65536 120)
theorem mkBig : ∃ M : Array Value, M.toList = bcells (fillL 0) ∧ M.size = 65536 ∧ ∀ w : World, (Instr.makeSlice 26 (.int .i64 65536) (.int .i64 65536)).run Try.prog w = .ok (.slice (some ⟨w.heap.size, 0, none⟩) 65536 65536) (w.alloc (.cells M 5)) := by
  obtain ⟨i, hi, hz0, hz1, hz2⟩ := info_parts info8
  refine ⟨madeCells (Value.int .u8 0).cells (65536 * 1), ?_, ?_, fun w => ?_⟩
  · show (madeCells #[Value.int .u8 0] 65536).toList = _
    rw [toList_madeCells_one]
    unfold bcells fillL
    rw [List.replicate_zero, List.nil_append, List.map_replicate, Nat.sub_zero]
    rfl
  · rw [size_madeCells]
  · have := run_make (P := Try.prog) w 26 5 i (.int .u8 0) Try.underlying26 hi hz0 .i64 .i64 65536 65536 (by omega) (by omega) (by rw [hz2]; omega) (by omega)
    rw [hz1] at this
    exact this
theorem wpAnyH_more {P : Program} {ops : Array Oper} {Q : Exit → Act → World → Prop} {md : Region.Mode} {S1 S2 : World → Prop} {fuel : Nat} {listed : Array Bool} {a : Act} {w : World}
    (h : ∀ w, S2 w → S1 w) (h2 : S2 w) (hk : S2 w → wpAnyH P md ops Q S2 fuel listed a w) : wpAnyH P md ops Q S1 fuel listed a w := by
  have key : ∀ (fuel : Nat) (listed : Array Bool) (a : Act) (w : World), wpAnyH P md ops Q S2 fuel listed a w → wpAnyH P md ops Q S1 fuel listed a w := by
    intro fuel
    induction fuel with
    | zero => exact fun _ _ _ h => h
    | succ n ih => exact fun listed a w h' => ⟨h'.1, fun i hi => wpOp_mono (fun a' w' h'' => ⟨h _ h''.1, ih _ _ _ h''.2⟩) (h'.2 i hi)⟩
  exact key _ _ _ _ (hk h2)
theorem conv_cell {P : Program} {T E S : TypeId} (hT : P.underlying T = some (.slice E)) (hE : P.underlying E = some (.int .u8)) (hS : P.underlying S = some .string) (w : World) (g : Nat) (x : Int) (h0 : 0 ≤ x) (h1 : x < 256)
    (h : w.cell? ⟨g, 0, none⟩ = some (.int .u8 x)) : (convert T S (.slice (some ⟨g, 0, none⟩) 1 1)).run P w = .ok (.string ⟨[toB x].toArray⟩) w := by
  refine run_convert_bytes_back w T S E ⟨g, 0, none⟩ 1 [toB x] hT hE hS (fun j hj => ?_)
  have hj0 : j = 0 := by simp at hj; omega
  subst hj0
  have hadd : (⟨g, 0, none⟩ : Addr).add 0 = ⟨g, 0, none⟩ := by unfold Addr.add; split <;> simp_all
  rw [hadd, h]
  show some (Value.int .u8 x) = some (Value.int .u8 ((toB x).toNat : Int))
  rw [toB_toNat x h0 h1]
theorem conv_row {P : Program} {T E S : TypeId} (w : World) (B g c N : Nat) (l : List UInt8) (hT : P.underlying T = some (.slice E)) (hE : P.underlying E = some (.int .u8)) (hS : P.underlying S = some .string) (hN : l.length = N)
    (h : w.ownsRow B E 1 (.slice (some ⟨g, 0, none⟩) N c) N (bcells l)) (o : Nat) (c' : Nat) (n : Nat) (l' : List UInt8) (hl' : l.drop o = l') (hn : n = l'.length) :
    (convert T S (.slice (some ⟨g, o, none⟩) n c')).run P w = .ok (.string ⟨l'.toArray⟩) w := by
  subst hn hl'
  refine run_convert_bytes_back w T S E ⟨g, o, none⟩ c' (l.drop o) hT hE hS (fun j hj => ?_)
  have hadd : (⟨g, o, none⟩ : Addr).add j = ⟨g, o + j, none⟩ := by unfold Addr.add; split <;> simp_all
  have hj2 := hj
  rw [List.length_drop] at hj2
  rw [hadd, h.cellAt (o + j) (by omega)]
  unfold bcells
  rw [List.getElem?_map, List.getElem?_eq_getElem (by omega), List.getElem_drop]
  rfl
theorem xL_drop (n o : Nat) : (xL n).drop o = xL (n - o) := by unfold xL; rw [List.drop_replicate]

set_option maxRecDepth 100000 in
set_option maxHeartbeats 4000000 in
theorem textKnown_go (w : World) :
    Calls Try.prog 3 #[] w fun e w' => e = .returned (.bool true) ∧ Below w.heap.size w w' := by
  have hb : Below w.heap.size w w := Below.refl _ _
  obtain ⟨M, hM1, hM2, hM3⟩ := mkBig
  have HM1 := Lib.hid hM1
  have HM2 := Lib.hid hM2
  clear hM1 hM2
  go_enter Try.func3, Try.ntmps3
  go_wp2_with fail
  generalize hW : w.alloc _ = W
  have hG : Strs W (some ⟨w.heap.size, 0, none⟩) 15 goodL := by rw [← hW]; exact strs_new w goodL 9
  have hbW : Below w.heap.size w W := by rw [← hW]; exact below_alloc hb _
  have hsz : w.heap.size < W.heap.size := by rw [← hW]; simp
  clear hW hb
  go_loopw [2] (fun i wr => ∃ k : Nat, k ≤ 15 ∧ i = .int .i64 k ∧ Below W.heap.size W wr) (fun i _ => 15 - (intOf i).toNat)
  case atStart => exact ⟨0, by omega, rfl, Below.refl _ _⟩
  case round =>
    obtain ⟨k, hk, rfl, hb⟩ := hrel
    by_cases hlt : k < 15
    · obtain ⟨x, hx, hcell⟩ := (hG.below hb).at0 hlt
      obtain ⟨hv, hc1, hc2, hxl⟩ := good_facts k hlt x hx
      have HV := Lib.hid hv
      have HX := Lib.hid hx
      obtain ⟨m, hm, hm0, hm1⟩ : ∃ m : Int, min (k : Int) 1 = m ∧ 0 ≤ m ∧ m ≤ 1 := ⟨_, rfl, by omega, by omega⟩
      rw [hm] at hc1 hc2
      have HC1 := Lib.hid hc1
      have HC2 := Lib.hid hc2
      have hG1 := Lib.hid hG
      clear hv hx hc1 hc2
      have hw1 : IntKind.i64.wrap (2 * m) = 2 * m := IntWalk.i64_in _ (by omega)
      have hw2 : IntKind.i64.wrap (1 + 2 * m) = 1 + 2 * m := IntWalk.i64_in _ (by omega)
      have had1 := fun W => add_str (P := Try.prog) W x [122] (by simp; omega)
      have had2 := fun W => add_str (P := Try.prog) W (x ++ [122]) x (by simp; omega)
      go_wp2_with fail
      go_region_held3 (fun w' => w'.cell? ⟨w.heap.size, k, none⟩ = some (.string ⟨x.toArray⟩) ∧ Below W.heap.size W w')
        (first
          | exact ⟨hcell, hb.drew⟩
          | (go_split_ands; exact ⟨(hb6.cell (World.block_lt_of_cell? _ _ ‹_›)).trans ‹_›, below_more ‹_› hb6⟩)
          | (go_split_ands; exact ⟨‹_›, ‹_›⟩))
        (first
          | (go_at_call 9; refine (textValid_eq x true _ (by omega) HV.out).mono ?_; rintro e w6 ⟨rfl, hb6⟩)
          | (go_at_call 10; (first | (with_reducible refine (textCount_eq x m _ (by omega) HC1.out).mono ?_) | (refine (textCount_eq _ (1 + 2 * m) _ (by simp; omega) (by simpa using HC2.out)).mono ?_)); rintro e w6 ⟨rfl, hb6⟩))
      all_goals
        obtain ⟨_, hb7⟩ := ‹_ ∧ Below W.heap.size W _›
        clear hw1 hw2 had1 had2
        go_wp2_with fail
        go_roundw
        case rel => exact ⟨k + 1, by omega, by go_num, hb7⟩
        case measure => simp [intOf]; omega
    · go_wp2_with fail
      clear hG
      obtain ⟨wo, rfl⟩ : ∃ wo : World, wo = wr := ⟨_, rfl⟩
      generalize hW2 : wo.alloc _ = V
      have hG : Strs V (some ⟨wo.heap.size, 0, none⟩) 21 badL := by rw [← hW2]; exact strs_new wo badL 9
      have hbV : Below w.heap.size w V := by rw [← hW2]; exact below_alloc (below_more hbW hb) _
      clear hW2 hb hbW hsz
      go_loopw [4] (fun i vr => ∃ k : Nat, k ≤ 21 ∧ i = .int .i64 k ∧ Below V.heap.size V vr) (fun i _ => 21 - (intOf i).toNat)
      case atStart => exact ⟨0, by omega, rfl, Below.refl _ _⟩
      case round =>
        clear hk hlt
        obtain ⟨j, hk, rfl, hb⟩ := hrel
        by_cases hlt : j < 21
        · obtain ⟨x, hx, hcell⟩ := (hG.below hb).at0 hlt
          obtain ⟨hv, hc1, hc2, hxl⟩ := bad_facts j hlt x hx
          have HV := Lib.hid hv
          have HX := Lib.hid hx
          have HC1 := Lib.hid hc1
          have HC2 := Lib.hid hc2
          have hG1 := Lib.hid hG
          clear hv hx hc1 hc2
          have hw8 : IntKind.u8.wrap (x.length : Int) = x.length := by rw [IntKind.wrap_u8]; omega
          have had1 := fun W => add_str (P := Try.prog) W [97] x (by simp; omega)
          have had2 := fun W => add_str (P := Try.prog) W (97 :: x) [98] (by simp; omega)
          have had3 := fun W => add_str (P := Try.prog) W [0] [toB x.length] (by simp)
          have had4 := fun W => add_str (P := Try.prog) W [0, toB x.length] x (by simp; omega)
          have hcvAll := Lib.hid (fun W g => conv_cell (P := Try.prog) (S := 9) Try.underlying26 Try.underlying5 Try.underlying9 W g (x.length : Int) (by omega) (by omega))
          go_wp2_with fail
          refine wp_region_held_drew (S := fun w' => w'.cell? ⟨wo.heap.size, j, none⟩ = some (.string ⟨x.toArray⟩) ∧ Below V.heap.size V w') (by kernel_rfl) ⟨hcell, hb.drew⟩ (fun hHeld => ?_)
          refine wpAnyH_take (i := 0) (oi := ({ dst := some 67, op := Op.move (Operand.tmp 3), type := 22, pos := "law.go:37", after := #[], guard := none } : Oper)) (v := ?vv0) rfl (by kernel_rfl) (by kernel_rfl) (by kernel_rfl) (fun _ _ _ h => h) (Or.inl ⟨by rfl, ?hy0⟩) (by assumption) ?rest0
          case hy0 => (intro w hSw; (try dsimp only at hSw); (try go_split_ands); go_simp; all_goals with_reducible rfl)
          try simp only [Act.put, List.setIfInBounds_toArray, List.set_cons_zero, List.set_cons_succ]
          refine wpAnyH_take (i := 1) (oi := ({ dst := some 68, op := Op.move (Operand.tmp 4), type := 3, pos := "law.go:37", after := #[], guard := none } : Oper)) (v := ?vv1) rfl (by kernel_rfl) (by kernel_rfl) (by kernel_rfl) (fun _ _ _ h => h) (Or.inl ⟨by rfl, ?hy1⟩) (by assumption) ?rest1
          case hy1 => (intro w hSw; (try dsimp only at hSw); (try go_split_ands); go_simp; all_goals with_reducible rfl)
          try simp only [Act.put, List.setIfInBounds_toArray, List.set_cons_zero, List.set_cons_succ]
          refine wpAnyH_take (i := 2) (oi := ({ dst := some 69, op := Op.indexAddr 22 (Operand.tmp 67) (Operand.tmp 68), type := 0, pos := "law.go:37", after := #[{ on := 0, ground := Ground.data }, { on := 1, ground := Ground.data }], guard := none } : Oper)) (v := ?vv2) rfl (by kernel_rfl) (by kernel_rfl) (by kernel_rfl) (fun _ _ _ h => h) (Or.inl ⟨by rfl, ?hy2⟩) (by assumption) ?rest2
          case hy2 => (intro w hSw; (try dsimp only at hSw); (try go_split_ands); go_simp; all_goals with_reducible rfl)
          try simp only [Act.put, List.setIfInBounds_toArray, List.set_cons_zero, List.set_cons_succ]
          refine wpAnyH_take (i := 3) (oi := ({ dst := some 70, op := Op.load 9 (Operand.tmp 69), type := 9, pos := "law.go:37", after := #[{ on := 2, ground := Ground.data }], guard := none } : Oper)) (v := ?vv3) rfl (by kernel_rfl) (by kernel_rfl) (by kernel_rfl) (fun _ _ _ h => h) (Or.inl ⟨by rfl, ?hy3⟩) (by assumption) ?rest3
          case hy3 => (intro w hSw; (try dsimp only at hSw); (try go_split_ands); go_simp; all_goals with_reducible rfl)
          try simp only [Act.put, List.setIfInBounds_toArray, List.set_cons_zero, List.set_cons_succ]
          refine wpAnyH_ready (rs := [4]) (by kernel_rfl) (by simp) ?_
          refine AllReadyH.cons (o := ({ dst := some 71, op := Op.call { callee := Callee.value (Operand.func 9), args := #[Operand.tmp 70], argTypes := #[9] }, type := 4, pos := "law.go:37", after := #[{ on := 3, ground := Ground.data }], guard := none } : Oper)) rfl (fun K hK => ?_) AllReadyH.nil
          go_simp
          (go_at_call 9; refine (textValid_eq x false _ (by omega) HV.out).mono ?_; rintro e w6 ⟨rfl, hb6⟩)
          refine hK.out _ _ ?_ (fun hHeld => ?_)
          · (exact ⟨(hb6.cell (World.block_lt_of_cell? _ _ hHeld.1)).trans hHeld.1, below_more hHeld.2 hb6⟩)
          clear hK K
          try simp only [Act.put, List.setIfInBounds_toArray, List.set_cons_zero, List.set_cons_succ]
          refine wpAnyH_take (i := 5) (oi := ({ dst := some 72, op := Op.move (Operand.tmp 71), type := 4, pos := "law.go:37", after := #[{ on := 4, ground := Ground.data }, { on := 4, ground := Ground.chain }], guard := none } : Oper)) (v := ?vv5) rfl (by kernel_rfl) (by kernel_rfl) (by kernel_rfl) (fun _ _ _ h => h) (Or.inl ⟨by rfl, ?hy5⟩) (by assumption) ?rest5
          case hy5 => (intro w hSw; (try dsimp only at hSw); (try go_split_ands); go_simp; all_goals with_reducible rfl)
          try simp only [Act.put, List.setIfInBounds_toArray, List.set_cons_zero, List.set_cons_succ]
          refine wpAnyH_take (i := 6) (oi := ({ dst := some 73, op := Op.move (Operand.tmp 3), type := 22, pos := "law.go:37", after := #[{ on := 5, ground := Ground.guard }], guard := some (5, false) } : Oper)) (v := ?vv6) rfl (by kernel_rfl) (by kernel_rfl) (by kernel_rfl) (fun _ _ _ h => h) (Or.inl ⟨by rfl, ?hy6⟩) (by assumption) ?rest6
          case hy6 => (intro w hSw; (try dsimp only at hSw); (try go_split_ands); go_simp; all_goals with_reducible rfl)
          try simp only [Act.put, List.setIfInBounds_toArray, List.set_cons_zero, List.set_cons_succ]
          refine wpAnyH_take (i := 7) (oi := ({ dst := some 74, op := Op.move (Operand.tmp 4), type := 3, pos := "law.go:37", after := #[{ on := 5, ground := Ground.guard }], guard := some (5, false) } : Oper)) (v := ?vv7) rfl (by kernel_rfl) (by kernel_rfl) (by kernel_rfl) (fun _ _ _ h => h) (Or.inl ⟨by rfl, ?hy7⟩) (by assumption) ?rest7
          case hy7 => (intro w hSw; (try dsimp only at hSw); (try go_split_ands); go_simp; all_goals with_reducible rfl)
          try simp only [Act.put, List.setIfInBounds_toArray, List.set_cons_zero, List.set_cons_succ]
          refine wpAnyH_take (i := 8) (oi := ({ dst := some 75, op := Op.indexAddr 22 (Operand.tmp 73) (Operand.tmp 74), type := 0, pos := "law.go:37", after := #[{ on := 6, ground := Ground.data }, { on := 7, ground := Ground.data }, { on := 5, ground := Ground.guard }], guard := some (5, false) } : Oper)) (v := ?vv8) rfl (by kernel_rfl) (by kernel_rfl) (by kernel_rfl) (fun _ _ _ h => h) (Or.inl ⟨by rfl, ?hy8⟩) (by assumption) ?rest8
          case hy8 => (intro w hSw; (try dsimp only at hSw); (try go_split_ands); go_simp; all_goals with_reducible rfl)
          try simp only [Act.put, List.setIfInBounds_toArray, List.set_cons_zero, List.set_cons_succ]
          refine wpAnyH_take (i := 9) (oi := ({ dst := some 76, op := Op.load 9 (Operand.tmp 75), type := 9, pos := "law.go:37", after := #[{ on := 8, ground := Ground.data }, { on := 5, ground := Ground.guard }], guard := some (5, false) } : Oper)) (v := ?vv9) rfl (by kernel_rfl) (by kernel_rfl) (by kernel_rfl) (fun _ _ _ h => h) (Or.inl ⟨by rfl, ?hy9⟩) (by assumption) ?rest9
          case hy9 => (intro w hSw; (try dsimp only at hSw); (try go_split_ands); go_simp; all_goals with_reducible rfl)
          try simp only [Act.put, List.setIfInBounds_toArray, List.set_cons_zero, List.set_cons_succ]
          refine wpAnyH_take (i := 10) (oi := ({ dst := some 77, op := Op.binOp BinOp.add 9 (Operand.const (Value.string { data := #[97] })) (Operand.tmp 76) 9, type := 9, pos := "law.go:37", after := #[{ on := 9, ground := Ground.data }, { on := 5, ground := Ground.guard }], guard := some (5, false) } : Oper)) (v := ?vv10) rfl (by kernel_rfl) (by kernel_rfl) (by kernel_rfl) (fun _ _ _ h => h) (Or.inl ⟨by rfl, ?hy10⟩) (by assumption) ?rest10
          case hy10 => (intro w hSw; (try dsimp only at hSw); (try go_split_ands); go_simp; all_goals with_reducible rfl)
          try simp only [Act.put, List.setIfInBounds_toArray, List.set_cons_zero, List.set_cons_succ]
          refine wpAnyH_take (i := 11) (oi := ({ dst := some 78, op := Op.binOp BinOp.add 9 (Operand.tmp 77) (Operand.const (Value.string { data := #[98] })) 9, type := 9, pos := "law.go:37", after := #[{ on := 10, ground := Ground.data }, { on := 5, ground := Ground.guard }], guard := some (5, false) } : Oper)) (v := ?vv11) rfl (by kernel_rfl) (by kernel_rfl) (by kernel_rfl) (fun _ _ _ h => h) (Or.inl ⟨by rfl, ?hy11⟩) (by assumption) ?rest11
          case hy11 => (intro w hSw; (try dsimp only at hSw); (try go_split_ands); go_simp; all_goals with_reducible rfl)
          try simp only [Act.put, List.setIfInBounds_toArray, List.set_cons_zero, List.set_cons_succ]
          refine wpAnyH_ready (rs := [12]) (by kernel_rfl) (by simp) ?_
          refine AllReadyH.cons (o := ({ dst := some 79, op := Op.call { callee := Callee.value (Operand.func 10), args := #[Operand.tmp 78], argTypes := #[9] }, type := 3, pos := "law.go:37", after := #[{ on := 11, ground := Ground.data }, { on := 5, ground := Ground.chain }, { on := 5, ground := Ground.guard }], guard := some (5, false) } : Oper)) rfl (fun K hK => ?_) AllReadyH.nil
          go_simp
          (go_at_call 10; refine (textCount_eq _ (-1) _ (by simp; omega) (by simpa using HC1.out)).mono ?_; rintro e w7 ⟨rfl, hb6⟩)
          refine hK.out _ _ ?_ (fun hHeld => ?_)
          · (exact ⟨(hb6.cell (World.block_lt_of_cell? _ _ hHeld.1)).trans hHeld.1, below_more hHeld.2 hb6⟩)
          clear hK K
          try simp only [Act.put, List.setIfInBounds_toArray, List.set_cons_zero, List.set_cons_succ]
          refine wpAnyH_take (i := 13) (oi := ({ dst := some 80, op := Op.binOp BinOp.neq 3 (Operand.tmp 79) (Operand.const (Value.int IntKind.i64 (-1))) 3, type := 4, pos := "law.go:37", after := #[{ on := 12, ground := Ground.data }, { on := 5, ground := Ground.guard }], guard := some (5, false) } : Oper)) (v := ?vv13) rfl (by kernel_rfl) (by kernel_rfl) (by kernel_rfl) (fun _ _ _ h => h) (Or.inl ⟨by rfl, ?hy13⟩) (by assumption) ?rest13
          case hy13 => (intro w hSw; (try dsimp only at hSw); (try go_split_ands); go_simp; all_goals with_reducible rfl)
          try simp only [Act.put, List.setIfInBounds_toArray, List.set_cons_zero, List.set_cons_succ]
          refine wpAnyH_take (i := 14) (oi := ({ dst := some 81, op := Op.pick (Operand.tmp 72) (Operand.const (Value.bool true)) (Operand.tmp 80), type := 4, pos := "law.go:37", after := #[{ on := 5, ground := Ground.data }, { on := 13, ground := Ground.data }], guard := none } : Oper)) (v := ?vv14) rfl (by kernel_rfl) (by kernel_rfl) (by kernel_rfl) (fun _ _ _ h => h) (Or.inl ⟨by rfl, ?hy14⟩) (by assumption) ?rest14
          case hy14 => (intro w hSw; (try dsimp only at hSw); (try go_split_ands); go_simp; all_goals with_reducible rfl)
          try simp only [Act.put, List.setIfInBounds_toArray, List.set_cons_zero, List.set_cons_succ]
          refine wpAnyH_take (i := 15) (oi := ({ dst := some 82, op := Op.move (Operand.tmp 81), type := 4, pos := "law.go:37", after := #[{ on := 14, ground := Ground.data }, { on := 12, ground := Ground.chain }], guard := none } : Oper)) (v := ?vv15) rfl (by kernel_rfl) (by kernel_rfl) (by kernel_rfl) (fun _ _ _ h => h) (Or.inl ⟨by rfl, ?hy15⟩) (by assumption) ?rest15
          case hy15 => (intro w hSw; (try dsimp only at hSw); (try go_split_ands); go_simp; all_goals with_reducible rfl)
          try simp only [Act.put, List.setIfInBounds_toArray, List.set_cons_zero, List.set_cons_succ]
          refine wpAnyH_take (i := 16) (oi := ({ dst := some 83, op := Op.move (Operand.tmp 3), type := 22, pos := "law.go:37", after := #[{ on := 15, ground := Ground.guard }], guard := some (15, false) } : Oper)) (v := ?vv16) rfl (by kernel_rfl) (by kernel_rfl) (by kernel_rfl) (fun _ _ _ h => h) (Or.inl ⟨by rfl, ?hy16⟩) (by assumption) ?rest16
          case hy16 => (intro w hSw; (try dsimp only at hSw); (try go_split_ands); go_simp; all_goals with_reducible rfl)
          try simp only [Act.put, List.setIfInBounds_toArray, List.set_cons_zero, List.set_cons_succ]
          refine wpAnyH_take (i := 17) (oi := ({ dst := some 84, op := Op.move (Operand.tmp 4), type := 3, pos := "law.go:37", after := #[{ on := 15, ground := Ground.guard }], guard := some (15, false) } : Oper)) (v := ?vv17) rfl (by kernel_rfl) (by kernel_rfl) (by kernel_rfl) (fun _ _ _ h => h) (Or.inl ⟨by rfl, ?hy17⟩) (by assumption) ?rest17
          case hy17 => (intro w hSw; (try dsimp only at hSw); (try go_split_ands); go_simp; all_goals with_reducible rfl)
          try simp only [Act.put, List.setIfInBounds_toArray, List.set_cons_zero, List.set_cons_succ]
          refine wpAnyH_take (i := 18) (oi := ({ dst := some 85, op := Op.indexAddr 22 (Operand.tmp 83) (Operand.tmp 84), type := 0, pos := "law.go:37", after := #[{ on := 16, ground := Ground.data }, { on := 17, ground := Ground.data }, { on := 15, ground := Ground.guard }], guard := some (15, false) } : Oper)) (v := ?vv18) rfl (by kernel_rfl) (by kernel_rfl) (by kernel_rfl) (fun _ _ _ h => h) (Or.inl ⟨by rfl, ?hy18⟩) (by assumption) ?rest18
          case hy18 => (intro w hSw; (try dsimp only at hSw); (try go_split_ands); go_simp; all_goals with_reducible rfl)
          try simp only [Act.put, List.setIfInBounds_toArray, List.set_cons_zero, List.set_cons_succ]
          refine wpAnyH_take (i := 19) (oi := ({ dst := some 86, op := Op.load 9 (Operand.tmp 85), type := 9, pos := "law.go:37", after := #[{ on := 18, ground := Ground.data }, { on := 15, ground := Ground.guard }], guard := some (15, false) } : Oper)) (v := ?vv19) rfl (by kernel_rfl) (by kernel_rfl) (by kernel_rfl) (fun _ _ _ h => h) (Or.inl ⟨by rfl, ?hy19⟩) (by assumption) ?rest19
          case hy19 => (intro w hSw; (try dsimp only at hSw); (try go_split_ands); go_simp; all_goals with_reducible rfl)
          try simp only [Act.put, List.setIfInBounds_toArray, List.set_cons_zero, List.set_cons_succ]
          refine wpAnyH_take (i := 20) (oi := ({ dst := some 87, op := Op.call { callee := Callee.builtin Builtin.len, args := #[Operand.tmp 86], argTypes := #[9] }, type := 3, pos := "law.go:37", after := #[{ on := 19, ground := Ground.data }, { on := 15, ground := Ground.guard }], guard := some (15, false) } : Oper)) (v := ?vv20) rfl (by kernel_rfl) (by kernel_rfl) (by kernel_rfl) (fun _ _ _ h => h) (Or.inl ⟨by rfl, ?hy20⟩) (by assumption) ?rest20
          case hy20 => (intro w hSw; (try dsimp only at hSw); (try go_split_ands); go_simp; all_goals with_reducible rfl)
          try simp only [Act.put, List.setIfInBounds_toArray, List.set_cons_zero, List.set_cons_succ]
          refine wpAnyH_take (i := 21) (oi := ({ dst := some 88, op := Op.convert 3 5 (Operand.tmp 87), type := 5, pos := "law.go:37", after := #[{ on := 20, ground := Ground.data }, { on := 15, ground := Ground.guard }], guard := some (15, false) } : Oper)) (v := ?vv21) rfl (by kernel_rfl) (by kernel_rfl) (by kernel_rfl) (fun _ _ _ h => h) (Or.inl ⟨by rfl, ?hy21⟩) (by assumption) ?rest21
          case hy21 => (intro w hSw; (try dsimp only at hSw); (try go_split_ands); go_simp; all_goals with_reducible rfl)
          try simp only [Act.put, List.setIfInBounds_toArray, List.set_cons_zero, List.set_cons_succ]
          refine wpAnyH_take (i := 25) (oi := ({ dst := some 92, op := Op.move (Operand.tmp 3), type := 22, pos := "law.go:37", after := #[{ on := 15, ground := Ground.guard }], guard := some (15, false) } : Oper)) (v := ?vv25) rfl (by kernel_rfl) (by kernel_rfl) (by kernel_rfl) (fun _ _ _ h => h) (Or.inl ⟨by rfl, ?hy25⟩) (by assumption) ?rest25
          case hy25 => (intro w hSw; (try dsimp only at hSw); (try go_split_ands); go_simp; all_goals with_reducible rfl)
          try simp only [Act.put, List.setIfInBounds_toArray, List.set_cons_zero, List.set_cons_succ]
          refine wpAnyH_take (i := 26) (oi := ({ dst := some 93, op := Op.move (Operand.tmp 4), type := 3, pos := "law.go:37", after := #[{ on := 15, ground := Ground.guard }], guard := some (15, false) } : Oper)) (v := ?vv26) rfl (by kernel_rfl) (by kernel_rfl) (by kernel_rfl) (fun _ _ _ h => h) (Or.inl ⟨by rfl, ?hy26⟩) (by assumption) ?rest26
          case hy26 => (intro w hSw; (try dsimp only at hSw); (try go_split_ands); go_simp; all_goals with_reducible rfl)
          try simp only [Act.put, List.setIfInBounds_toArray, List.set_cons_zero, List.set_cons_succ]
          refine wpAnyH_take (i := 27) (oi := ({ dst := some 94, op := Op.indexAddr 22 (Operand.tmp 92) (Operand.tmp 93), type := 0, pos := "law.go:37", after := #[{ on := 25, ground := Ground.data }, { on := 26, ground := Ground.data }, { on := 15, ground := Ground.guard }], guard := some (15, false) } : Oper)) (v := ?vv27) rfl (by kernel_rfl) (by kernel_rfl) (by kernel_rfl) (fun _ _ _ h => h) (Or.inl ⟨by rfl, ?hy27⟩) (by assumption) ?rest27
          case hy27 => (intro w hSw; (try dsimp only at hSw); (try go_split_ands); go_simp; all_goals with_reducible rfl)
          try simp only [Act.put, List.setIfInBounds_toArray, List.set_cons_zero, List.set_cons_succ]
          refine wpAnyH_take (i := 28) (oi := ({ dst := some 95, op := Op.load 9 (Operand.tmp 94), type := 9, pos := "law.go:37", after := #[{ on := 27, ground := Ground.data }, { on := 15, ground := Ground.guard }], guard := some (15, false) } : Oper)) (v := ?vv28) rfl (by kernel_rfl) (by kernel_rfl) (by kernel_rfl) (fun _ _ _ h => h) (Or.inl ⟨by rfl, ?hy28⟩) (by assumption) ?rest28
          case hy28 => (intro w hSw; (try dsimp only at hSw); (try go_split_ands); go_simp; all_goals with_reducible rfl)
          try simp only [Act.put, List.setIfInBounds_toArray, List.set_cons_zero, List.set_cons_succ]
          refine wpAnyH_ready (rs := [22]) (by kernel_rfl) (by simp) ?_
          refine AllReadyH.cons (o := ({ dst := some 89, op := Op.buildSlice 26 1 #[(0, Operand.tmp 88)], type := 26, pos := "law.go:37", after := #[{ on := 21, ground := Ground.data }, { on := 15, ground := Ground.guard }], guard := some (15, false) } : Oper)) rfl (fun K hK => ?_) AllReadyH.nil
          go_simp
          refine hK.out _ _ ?_ (fun hHeld => ?_)
          · (exact ⟨(World.cell?_alloc_some _ _ _ (by rw [hHeld.1]; rfl)).trans hHeld.1, below_alloc hHeld.2 _⟩)
          clear hK K
          try simp only [Act.put, List.setIfInBounds_toArray, List.set_cons_zero, List.set_cons_succ]
          refine wpAnyH_more (S2 := fun w' => (w'.cell? ⟨wo.heap.size, j, none⟩ = some (.string ⟨x.toArray⟩) ∧ Below V.heap.size V w') ∧ w'.cell? ⟨w7.heap.size, 0, none⟩ = some (.int .u8 x.length)) (fun _ h => h.1) ⟨hHeld, World.cell?_alloc_new _ _ _ _⟩ (fun hHeld2 => ?_)
          clear hHeld
          have hHeld := hHeld2
          clear hHeld2
          refine wpAnyH_take (i := 23) (oi := ({ dst := some 90, op := Op.convert 26 9 (Operand.tmp 89), type := 9, pos := "law.go:37", after := #[{ on := 22, ground := Ground.data }, { on := 15, ground := Ground.guard }], guard := some (15, false) } : Oper)) (v := ?vv23) rfl (by kernel_rfl) (by kernel_rfl) (by kernel_rfl) (fun _ _ _ h => h) (Or.inl ⟨by rfl, ?hy23⟩) (by assumption) ?rest23
          case hy23 => (intro w hSw; have hq := hcvAll.out w _ hSw.2; clear hSw; go_simp; all_goals with_reducible rfl)
          try simp only [Act.put, List.setIfInBounds_toArray, List.set_cons_zero, List.set_cons_succ]
          refine wpAnyH_take (i := 24) (oi := ({ dst := some 91, op := Op.binOp BinOp.add 9 (Operand.const (Value.string { data := #[0] })) (Operand.tmp 90) 9, type := 9, pos := "law.go:37", after := #[{ on := 23, ground := Ground.data }, { on := 15, ground := Ground.guard }], guard := some (15, false) } : Oper)) (v := ?vv24) rfl (by kernel_rfl) (by kernel_rfl) (by kernel_rfl) (fun _ _ _ h => h) (Or.inl ⟨by rfl, ?hy24⟩) (by assumption) ?rest24
          case hy24 => (intro w hSw; (try dsimp only at hSw); (try go_split_ands); go_simp; all_goals with_reducible rfl)
          try simp only [Act.put, List.setIfInBounds_toArray, List.set_cons_zero, List.set_cons_succ]
          refine wpAnyH_take (i := 29) (oi := ({ dst := some 96, op := Op.binOp BinOp.add 9 (Operand.tmp 91) (Operand.tmp 95) 9, type := 9, pos := "law.go:37", after := #[{ on := 24, ground := Ground.data }, { on := 28, ground := Ground.data }, { on := 15, ground := Ground.guard }], guard := some (15, false) } : Oper)) (v := ?vv29) rfl (by kernel_rfl) (by kernel_rfl) (by kernel_rfl) (fun _ _ _ h => h) (Or.inl ⟨by rfl, ?hy29⟩) (by assumption) ?rest29
          case hy29 => (intro w hSw; (try dsimp only at hSw); (try go_split_ands); go_simp; all_goals with_reducible rfl)
          try simp only [Act.put, List.setIfInBounds_toArray, List.set_cons_zero, List.set_cons_succ]
          refine wpAnyH_ready (rs := [30]) (by kernel_rfl) (by simp) ?_
          refine AllReadyH.cons (o := ({ dst := some 97, op := Op.call { callee := Callee.value (Operand.func 11), args := #[Operand.tmp 96, Operand.const (Value.string { data := #[] }), Operand.const (Value.int IntKind.i64 0), Operand.const (Value.int IntKind.i64 5)], argTypes := #[9, 9, 3, 27] }, type := 4, pos := "law.go:37", after := #[{ on := 29, ground := Ground.data }, { on := 15, ground := Ground.chain }, { on := 15, ground := Ground.guard }], guard := some (15, false) } : Oper)) rfl (fun K hK => ?_) AllReadyH.nil
          go_simp
          (go_at_call 11; refine (gets_yes _ [] 0 5 _ (by simp; omega) (by simpa using HC2.out)).mono ?_; rintro e w8 ⟨rfl, hb6⟩)
          refine hK.out _ _ ?_ (fun hHeld => ?_)
          · (exact ⟨⟨(hb6.cell (World.block_lt_of_cell? _ _ hHeld.1.1)).trans hHeld.1.1, below_more hHeld.1.2 hb6⟩, (hb6.cell (World.block_lt_of_cell? _ _ hHeld.2)).trans hHeld.2⟩)
          clear hK K
          try simp only [Act.put, List.setIfInBounds_toArray, List.set_cons_zero, List.set_cons_succ]
          refine wpAnyH_take (i := 31) (oi := ({ dst := some 98, op := Op.unOp UnOp.not 4 (Operand.tmp 97), type := 4, pos := "law.go:37", after := #[{ on := 30, ground := Ground.data }, { on := 15, ground := Ground.guard }], guard := some (15, false) } : Oper)) (v := ?vv31) rfl (by kernel_rfl) (by kernel_rfl) (by kernel_rfl) (fun _ _ _ h => h) (Or.inl ⟨by rfl, ?hy31⟩) (by assumption) ?rest31
          case hy31 => (intro w hSw; (try dsimp only at hSw); (try go_split_ands); go_simp; all_goals with_reducible rfl)
          try simp only [Act.put, List.setIfInBounds_toArray, List.set_cons_zero, List.set_cons_succ]
          refine wpAnyH_take (i := 32) (oi := ({ dst := some 99, op := Op.pick (Operand.tmp 82) (Operand.const (Value.bool true)) (Operand.tmp 98), type := 4, pos := "law.go:37", after := #[{ on := 15, ground := Ground.data }, { on := 31, ground := Ground.data }], guard := none } : Oper)) (v := ?vv32) rfl (by kernel_rfl) (by kernel_rfl) (by kernel_rfl) (fun _ _ _ h => h) (Or.inl ⟨by rfl, ?hy32⟩) (by assumption) ?rest32
          case hy32 => (intro w hSw; (try dsimp only at hSw); (try go_split_ands); go_simp; all_goals with_reducible rfl)
          try simp only [Act.put, List.setIfInBounds_toArray, List.set_cons_zero, List.set_cons_succ]
          refine wpAnyH_done (by kernel_rfl) ?_ _
          have hb7 := hHeld.1.2
          clear had1 had2 had3 had4 hw8
          go_wp2_with fail
          go_roundw
          case rel => exact ⟨j + 1, by omega, by go_num, hb7⟩
          case measure => simp [intOf]; omega
        · go_wp2_with fail
          clear hG hM3
          obtain ⟨wb, rfl⟩ : ∃ wb : World, wb = wr := ⟨_, rfl⟩
          replace hb := below_more hbV hb
          have hown : (wb.alloc (.cells M 5)).ownsRow w.heap.size 5 1 (.slice (some ⟨wb.heap.size, 0, none⟩) 65536 65536) 65536 (bcells (fillL 0)) := by
            rw [← HM1.out]
            exact World.ownsRow_lit wb M 65536 hb.size (by unfold maxLen; omega) (by rw [HM2.out])
          replace hb := below_alloc hb (.cells M 5)
          clear hbV
          go_loopw [6] (fun i vr => ∃ k : Nat, k ≤ bigN ∧ i = .int .i64 k ∧ vr.ownsRow w.heap.size 5 1 (.slice (some ⟨wb.heap.size, 0, none⟩) 65536 65536) 65536 (bcells (fillL k)) ∧ Below w.heap.size w vr) (fun i _ => bigN - (intOf i).toNat)
          case atStart => exact ⟨0, Nat.zero_le _, rfl, hown, hb⟩
          case round =>
            clear hown hb hk hlt
            obtain ⟨i, hk, rfl, hown, hb⟩ := hrel
            have hsz : w.heap.size ≤ wb.heap.size := by
              have := hown.lt wb.heap.size rfl
              exact this.1
            have HBN : Hid (bigN = 65536) := bigN_eq
            by_cases hlt : (i : Int) < 65536
            · have hfr := hown.frozenAt i
              have hce := hown.cellAt i (by omega)
              have hst := Lib.hid (hown.stored i (.int .u8 120))
              have hfl := Lib.hid (fillL_next i (by omega))
              have hi0 : (0 : Int) ≤ (i : Int) := by omega
              clear hk
              obtain ⟨cv, hcv⟩ : ∃ cv, (bcells (fillL i))[i]? = some cv := ⟨_, List.getElem?_eq_getElem (by rw [bcells_len, fillL_len _ (by omega)]; omega)⟩
              rw [hcv] at hce
              clear hcv
              go_wp2_with fail
              go_roundw
              case rel => exact ⟨i + 1, by have := HBN.out; omega, by go_num, by rw [← hfl.out]; exact hst.out.1, hb.setCell hsz _⟩
              case measure => (have := HBN.out; simp [intOf]; omega)
            · have := HBN.out
              obtain rfl : i = 65536 := by omega
              rw [fillL_end] at hown
              have hc1 := fun (W : World) hW => conv_row (P := Try.prog) (S := 9) W w.heap.size wb.heap.size 65536 65536 (xL 65536) Try.underlying26 Try.underlying5 Try.underlying9 (xL_len _) hW 1 65535 65535 (xL 65535) (xL_drop _ _) (xL_len _).symm
              have hc2 := fun (W : World) hW => conv_row (P := Try.prog) (S := 9) W w.heap.size wb.heap.size 65536 65536 (xL 65536) Try.underlying26 Try.underlying5 Try.underlying9 (xL_len _) hW 0 65536 65536 (xL 65536) (xL_drop _ _) (xL_len _).symm
              have e1 := hc1 _ hown
              have e2 := hc2 _ hown
              have e3 := hc1 _ hown.drew
              have e4 := hc2 _ hown.drew
              clear hc1 hc2
              go_wp2_with fail
              go_region
              clear e1 e2 e3 e4 hown
              have hbU : Below w.heap.size w wr.drew := hb.drew
              clear hb
              generalize wr.drew = U at *
              have hb := hbU
              clear hbU
              have lX := Lib.hid (xL_len 65535)
              have lY := Lib.hid (xL_len 65536)
              have HV := xL_val 65535 (by omega)
              have HP1 := Lib.hid (put1_yes (xL 65535) HV)
              have HP2 : Hid (putR [[97], xL 65536] = ([], 5)) := put_no [[97], xL 65536] 1 (xL 65536) rfl (xL_no 65536 (by omega))
              have lF : Hid ((fieldL (xL 65535)).length = 65537) := by show _ = _; rw [fieldL_len, xL_len]
              have HG1 : Hid (getR (fieldL (xL 65535)) = (xL 65535, 65537, 0)) := by
                show _ = _
                have := get_back (xL 65535) [] HV
                rw [List.append_nil, xL_len] at this
                exact this
              have HG2 : Hid (getR ((fieldL (xL 65535)).take 65536) = ([], 0, 2)) := by
                show _ = _
                have := field_cut (xL 65535) 65536 (by rw [xL_len]; omega) (by rw [xL_len]; omega)
                rw [getR, this]
                rfl
              have HV1 := Lib.hid HV
              have HV2 := Lib.hid (xL_no 65536 (by omega))
              have HC := Lib.hid (xL_cnt 65535 (by omega))
              clear HV
              have lFI : ((fieldL (xL 65535)).length : Int) = 65537 := by rw [lF.out]; rfl
              go_wp2_with fail
              refine (textPut_eq _ _ _ [xL 65535] (fieldL (xL 65535)) 0 _ (strs_new1 _ _ _) (by omega) (Lib.hid (by intro x hx; rw [List.mem_singleton] at hx; rw [hx, lX.out]; omega)) HP1.out).mono ?_
              rintro e w1 ⟨rfl, hb1⟩
              replace hb := below_more (below_alloc hb _) hb1
              clear hb1
              go_wp2_with fail
              refine (textPut_eq _ _ _ [[97], xL 65536] [] 5 _ (strs_new2 _ _ _ _) (by omega) (Lib.hid (by intro x hx; simp only [List.mem_cons, List.not_mem_nil, or_false] at hx; rcases hx with rfl | rfl; exact (by decide); rw [lY.out]; omega)) HP2.out).mono ?_
              rintro e w1 ⟨rfl, hb1⟩
              replace hb := below_more (below_alloc hb _) hb1
              clear hb1
              go_wp2_with fail
              refine (putData_yes (xL 65535) _ (by rw [lX.out]; omega)).mono ?_
              rintro e w1 ⟨rfl, hb1⟩
              replace hb := below_more hb hb1
              clear hb1
              go_wp2_with fail
              refine (putData_no (xL 65536) _ (by rw [lY.out]; omega)).mono ?_
              rintro e w1 ⟨rfl, hb1⟩
              replace hb := below_more hb hb1
              clear hb1
              go_wp2_with fail
              refine (textValid_eq (xL 65535) true _ (by rw [lX.out]; omega) HV1.out).mono ?_
              rintro e w1 ⟨rfl, hb1⟩
              replace hb := below_more hb hb1
              clear hb1
              go_wp2_with fail
              refine (textCount_eq (xL 65535) _ _ (by rw [lX.out]; omega) HC.out).mono ?_
              rintro e w1 ⟨rfl, hb1⟩
              replace hb := below_more hb hb1
              clear hb1
              go_wp2_with fail
              refine (textValid_eq (xL 65536) false _ (by rw [lY.out]; omega) HV2.out).mono ?_
              rintro e w1 ⟨rfl, hb1⟩
              replace hb := below_more hb hb1
              clear hb1
              go_wp2_with fail
              refine (gets_yes (fieldL (xL 65535)) (xL 65535) 65537 0 _ (by rw [lF.out]; omega) HG1.out).mono ?_
              rintro e w1 ⟨rfl, hb1⟩
              replace hb := below_more hb hb1
              clear hb1
              go_wp2_with fail
              refine (gets_yes _ [] 0 2 _ (by rw [List.length_take]; omega) HG2.out).mono ?_
              rintro e w1 ⟨rfl, hb1⟩
              replace hb := below_more hb hb1
              clear hb1
              go_wp2_with fail
              refine (textPut_eq _ _ _ [[97], []] [0, 1, 97, 0, 0] 0 _ (strs_new2 _ _ _ _) (by omega) (Lib.hid (by decide)) (by decide)).mono ?_
              rintro e w1 ⟨rfl, hb1⟩
              replace hb := below_more (below_alloc hb _) hb1
              clear hb1
              go_wp2_with fail
              refine (gets_yes [0] [] 0 2 _ (by decide) (by decide)).mono ?_
              rintro e w1 ⟨rfl, hb1⟩
              replace hb := below_more hb hb1
              clear hb1
              go_wp2_with fail
              refine (gets_yes [0, 0] [] 2 0 _ (by decide) (by decide)).mono ?_
              rintro e w1 ⟨rfl, hb1⟩
              replace hb := below_more hb hb1
              clear hb1
              go_wp2_with fail
              refine (gets_yes [0, 1, 255] [] 0 5 _ (by decide) (by decide)).mono ?_
              rintro e w1 ⟨rfl, hb1⟩
              replace hb := below_more hb hb1
              clear hb1
              go_wp2_with fail
              refine (tawake_any _).mono ?_
              rintro e w1 ⟨rfl, hb1⟩
              replace hb := below_more hb hb1
              clear hb1
              go_wp2_with fail
              go_ret
              exact ⟨rfl, hb⟩
end Go.Proofs.Yteanfkgnhjmodaa

namespace Go.Proofs.Yteanfkgnhjmodaa.lawTextKnown
open Go.RowKit Go.ChangeShapes Go.WideShapes Go.ChangeAt
open Go.ChangeMaps (open_string shut_string)
theorem walk (w : World) :
    Calls Try.prog 3 #[] w fun e w' => e = .returned (.bool true) ∧ Below w.heap.size w w' := textKnown_go w
set_option maxRecDepth 100000 in
theorem lifted (os : Os) (started : os.Started) (H : Type) (enc : TypeId × Value → H) :
    ReturnsInHanded {} Try.checked os 3 .any (Rows.textKnownSpec.pre6 enc Try.prog Try.f3 Rows.textKnownRow.domain false) (Rows.textKnownSpec.post enc Try.prog Try.f3 false true false false) := by
  refine returnsInHanded_of_change (C := Try.checked) own_none started (by kernel_rfl) Try.func3
    (ChangeSpec.witness6 (enc := enc) (C := Try.checked) false ⟨#[], #[], []⟩ 8 (by kernel_rfl) (by kernel_rfl) (by kernel_rfl) (by kernel_rfl)) ?_
  intro W base args ds gs before hval0 hW hcnd _
  have hval : ∀ (j : Nat) t v, Try.f3.params[j]? = some t → args[j]? = some v → Value.okWide Try.prog W .any base t v := hval0
  have hWk := hW
  obtain ⟨p, q, hA0, hV, hbef, _, _⟩ := hWk
  have hA : DataW.TrodAll enc Try.prog W 0 (fun _ => true) true Try.f3.params.toList args.toList ds p := hA0
  obtain ⟨rfl, rfl⟩ := trodVars_none hV
  rw [Try.params3] at hA hval
  obtain ⟨hargs, rfl, hpn⟩ := trodAll_nil hA
  obtain rfl : args = #[] := by cases args; simp_all
  refine (walk W ).mono fun e W' ⟨he, hg⟩ => ?_
  subst he
  exact ⟨_, rfl, law_post laid_out (by kernel_rfl) rfl (by kernel_rfl) Try.underlying4 hW rfl hg⟩

theorem over : Rows.textKnownRow.holds Try.pinned (OpenSpec.ofChange Rows.textKnownSpec) :=
  OpenClaim.holds_of_wide 3 Try.f3 rfl rfl rfl rfl rfl rfl rfl ⟨rfl, rfl, rfl, rfl, rfl⟩ rfl rfl rfl rfl rfl (by kernel_rfl) Try.func3 (by kernel_rfl)
    (of_decide_eq_true (by kernel_rfl)) (by unfold Func.isWrapper; first | (rw [if_pos (by decide +kernel)]; kernel_rfl) | (rw [if_neg (by decide +kernel)]; exact ⟨rfl, rfl⟩))
    (fun os started H enc _ => lifted os started H enc)

/-- THE STATEMENT. -/
theorem proved : Rows.TextKnownSaid :=
  over
end Go.Proofs.Yteanfkgnhjmodaa.lawTextKnown
