/-
  ids: All of the program: the iterator over a copy of the words.
-/
import Derived.Test.YtckgglgecpmikaaDoorIdPool
import Derived.RangeFuncNested
import Derived.RangeFuncBox
import Derived.RangeFuncBound
import Derived.RangeFuncCalls
import Derived.RangeFuncLeaves
import Derived.Shelf.Abstract
import Derived.Shelf.RegionOpen
import Derived.WalkKit
import Derived.OwnWalkIn
import Derived.TacticsInMore
import Derived.LoopNIn
import Derived.LoopIn
set_option linter.unusedSimpArgs false
set_option linter.unusedVariables false
namespace Go.Proofs.YtckgglgecpmikaaDoor
open Go.RowKit Go.Shelf
attribute [local go_sem] Oper.semAt_some

/-- Blocks that stay as they are. -/
structure KpG (G : Nat → Prop) (W W' : World) : Prop where
  size : W.heap.size ≤ W'.heap.size
  block : ∀ b, G b → W'.heap[b]? = W.heap[b]?
theorem KpG.t {G : Nat → Prop} {A B C : World} (h : KpG G A B) (k : KpG G B C) : KpG G A C := ⟨Nat.le_trans h.size k.size, fun b hb => (k.block b hb).trans (h.block b hb)⟩
theorem KpG.refl {G : Nat → Prop} (W : World) : KpG G W W := ⟨Nat.le_refl _, fun _ _ => rfl⟩
theorem KpG.b {G : Nat → Prop} {w : World} (hG : ∀ b, G b → b < w.heap.size) (W : World) (l : Nat) (o o' : Obj) (hl : w.heap.size ≤ l) (_ : W.heap[l]? = some o) (_ : o.isCells = false) (_ : o.isWalk = false) : KpG G W (W.putObj l o') :=
  ⟨by simp, fun b hb => World.putObj_heap_other (fun e => by have := hG b hb; omega)⟩
/-- What an iterator over ids reads. -/
def SG (bx : Nat) (A : Option Addr) (b : Nat) : Prop := b = bx ∨ (∃ o, A = some ⟨b, o, none⟩) ∨ b = 0
abbrev N16 := { x : Nat // 1 ≤ x ∧ x ≤ 65535 }
def EncN (x : N16) : Array Value := #[.int .u16 (x.1 : Nat)]
theorem n16_of : ∀ (L : List Nat), (∀ x ∈ L, 1 ≤ x ∧ x ≤ 65535) → ∃ LS : List N16, LS.map (·.1) = L
  | [], _ => ⟨[], rfl⟩
  | a :: r, h => by
    obtain ⟨LS, e⟩ := n16_of r (fun x hx => h x (by simp [hx]))
    exact ⟨⟨a, h a (by simp)⟩ :: LS, by rw [List.map_cons, e]⟩
theorem KpG.glo {bx : Nat} {A : Option Addr} {W W' : World} (h : KpG (SG bx A) W W') (hG : GloT W) : GloT W' := fun j hj => (World.cell?_of_block (h.block _ (Or.inr (Or.inr rfl)))).trans (hG j hj)
theorem KpG.vals {bx n : Nat} {A : Option Addr} {xs : List Value} {W W' : World} (h : KpG (SG bx A) W W') (hV : Vals W A n xs) : Vals W' A n xs := hV.keep fun b o _ e _ => h.block b (Or.inr (Or.inl ⟨o, e⟩))
set_option maxRecDepth 100000 in
set_option maxHeartbeats 4000000 in
theorem iter_in (n l bx c : Nat) (A : Option Addr) (ws L : List Nat) (J Jx : List N16 → World → Prop) (LS : List N16) (hLS : LS.map (·.1) = L) (W : World) (hbx : W.cell? ⟨bx, 0, none⟩ = some (.slice A ws.length c)) (hV : Vals W A ws.length (ws.map u64V)) (hG : GloT W) (hW : WL ws L)
    (hn : 1 ≤ n)
    (hY : ∀ pre x W1, J pre W1 → pre.length < LS.length → YieldAt Fence.wide (n - 1) Tryd.prog l (EncN x) W1 fun e W' => (e = .returned (.bool true) ∧ J (pre ++ [x]) W' ∧ KpG (SG bx A) W1 W') ∨ (e = .returned (.bool false) ∧ Jx (pre ++ [x]) W'))
    (h0 : J [] W) :
    CallsIn Fence.wide n Tryd.prog 27 #[.func (.yield l) #[] #[], .pointer (some ⟨bx, 0, none⟩)] W fun e W' => (∃ v, e = .returned v) ∧ ((∃ xs, xs = LS ∧ J xs W') ∨ (∃ pre, pre <+: LS ∧ Jx pre W')) := by
  have HV := Lib.hid hV
  have HG := Lib.hid hG
  have HW := Lib.hid hW
  have HY := Lib.hid hY
  have hlw := hW.len
  have hall : LS.map (·.1) = allW 0 (ws.drop 0) := by rw [hLS, List.drop_zero, hW.all]
  have HA := Lib.hid hall
  clear hV hG hW hY hLS hall
  refine callsIn_of_wp Tryd.func27 rfl trivial ?_ rfl
  simp only [Tryd.ntmps27, List.size_toArray, List.length_cons, List.length_nil, Nat.reduceAdd, Nat.reduceSub, Array.replicate_succ, Array.replicate_zero, List.push_toArray, List.append_toArray, List.nil_append, List.cons_append]
  gi_wp2
  gi_loopw [7] (fun i wr => ∃ (k : Nat) (pre rest : List N16), i = .int .i64 k ∧ k ≤ ws.length ∧ LS = pre ++ rest ∧ Hid (rest.map (·.1) = allW k (ws.drop k)) ∧ J pre wr ∧ Hid (KpG (SG bx A) W wr)) (fun i _ => ws.length - (intOf i).toNat)
  case atStart => exact ⟨0, [], LS, rfl, Nat.zero_le _, rfl, HA.out, h0, KpG.refl _⟩
  case round =>
    obtain ⟨k, pre, rest, rfl, hk, hsp, hre, hJs, hKp⟩ := hrel
    by_cases hlt : k < ws.length
    · obtain ⟨b, o, y, rfl, hy, hcy⟩ := (hKp.out.vals HV.out).at_ hlt
      obtain ⟨x, hx, rfl⟩ : ∃ x, ws[k]? = some x ∧ u64V x = y := by
        rw [List.getElem?_map, Option.map_eq_some_iff] at hy
        exact hy
      have hkI : (k : Int) < (ws.length : Int) := by omega
      have hk0 : (0 : Int) ≤ (k : Int) := by omega
      have hxl := HW.out.word hx
      have HX := Lib.hid hx
      have hre2 : Hid (rest.map (·.1) = posL k x ++ allW (k + 1) (ws.drop (k + 1))) := by
        show _ = _
        obtain ⟨h1, h2⟩ := List.getElem?_eq_some_iff.1 hx
        rw [hre.out, List.drop_eq_getElem_cons h1, h2]; rfl
      unfold u64V at hcy
      clear hy hx hre
      gi_wp2
      gi_loopw [4] (fun i wr => ∃ (z : Nat) (pre rest : List N16), i = .int .u64 z ∧ z < 18446744073709551616 ∧ LS = pre ++ rest ∧ Hid (rest.map (·.1) = posL k z ++ allW (k + 1) (ws.drop (k + 1))) ∧ J pre wr ∧ Hid (KpG (SG bx (some ⟨b, o, none⟩)) W wr)) (fun i _ => (posL k (intOf i).toNat).length)
      case atStart => exact ⟨x, pre, rest, rfl, hxl, hsp, hre2, hJs, hKp⟩
      case round =>
        clear hsp hre2 hJs hKp
        obtain ⟨z, pre, rest, rfl, hzl, hsp, hre, hJs, hKp⟩ := hrel
        by_cases hz : z = 0
        · subst hz
          have hre2 : Hid (rest.map (·.1) = allW (k + 1) (ws.drop (k + 1))) := by show _ = _; rw [hre.out, pos_zero]; rfl
          clear hre
          gi_wp2
          go_roundw
          case rel => exact ⟨k + 1, pre, rest, by go_num, by omega, hsp, hre2, hJs, hKp⟩
          case measure => simp [intOf]; omega
        · have hzne : ((z : Int) != 0) = true := by simp; omega
          obtain ⟨d, hd⟩ : ∃ d, Lib.ctz 64 z = d := ⟨_, rfl⟩
          have hps := pos_step k z hz hzl
          rw [hd] at hps
          obtain ⟨y, hyz⟩ : ∃ y, z &&& (z - 1) = y := ⟨_, rfl⟩
          rw [hyz] at hps
          have hyl : y < 18446744073709551616 := by rw [← hyz]; exact Nat.lt_of_le_of_lt Nat.and_le_left hzl
          have hsub : IntKind.u64.wrap ((z : Int) - 1) = ((z - 1 : Nat) : Int) := by rw [IntKind.wrap_u64]; omega
          have hand : bits BinOp.and IntKind.u64 (z : Int) ((z - 1 : Nat) : Int) = (y : Int) := by rw [u64_and_nat z (z - 1) hzl (by omega), hyz]
          have hand2 : bits BinOp.and IntKind.u64 (z : Int) ((z : Int) - 1) = (y : Int) := by rw [← hand]; congr 1; omega
          have HPS := Lib.hid hps
          cases rest with
          | nil =>
            have h1 := hre.out
            rw [hps] at h1
            cases h1
          | cons e rest =>
            have h1 := hre.out
            rw [hps, List.map_cons, List.cons_append] at h1
            injection h1 with h2 h3
            have hre2 : Hid (rest.map (·.1) = posL k y ++ allW (k + 1) (ws.drop (k + 1))) := h3
            have hlow := low_eq k z d wr (hKp.out.glo HG.out) hz hzl hd (by have := e.2; omega)
            rw [← h2] at hlow
            have HLOW := Lib.hid hlow
            obtain ⟨fn, tmps, assign, body, hy, hR⟩ := HY.out pre e wr hJs (by rw [hsp]; simp)
            unfold EncN at hy
            have hsp2 : LS = (pre ++ [e]) ++ rest := by rw [hsp]; simp
            clear hre h2 h3 hps hlow hd hyz hsp
            gi_wp2_with (refine ⟨trivial, ?_⟩; gi_at_call 28; refine (callsIn_wide.2 HLOW.out).mono ?_; rintro e w' ⟨rfl, rfl⟩)
            refine hR.mono ?_
            rintro e2 W3 (⟨rfl, hJ3, hk3⟩ | ⟨rfl, hJx3⟩)
            · have hK3 := Lib.hid (hKp.out.t hk3)
              clear hk3
              gi_wp2
              go_roundw
              case rel => exact ⟨y, pre ++ [e], rest, rfl, hyl, hsp2, hre2, hJ3, hK3⟩
              case measure => simp only [intOf, Int.toNat_natCast]; show (posL k y).length < (posL k z).length; rw [HPS.out]; simp
            · gi_wp2
              refine bodyPost_ret (results_none rfl _ _ _) rfl ?_
              exact ⟨⟨_, rfl⟩, .inr ⟨_, ⟨rest, hsp2.symm⟩, hJx3⟩⟩
    · obtain rfl : k = ws.length := by omega
      have hr : rest = [] := by
        have := hre.out
        rw [List.drop_length] at this
        exact List.map_eq_nil_iff.1 this
      subst hr
      rw [List.append_nil] at hsp
      subst hsp
      clear hre
      gi_wp2
      go_end0
      exact ⟨⟨_, rfl⟩, .inl ⟨_, rfl, hJs⟩⟩
/-- What an iterator over the ids L holds. -/
def SQ (w : World) (bx : Nat) (A : Option Addr) (L : List Nat) : Prop :=
  ∃ ws c, w.cell? ⟨bx, 0, none⟩ = some (.slice A ws.length c) ∧ Vals w A ws.length (ws.map u64V) ∧ WL ws L
theorem SQ.keep {w w' : World} {bx : Nat} {A : Option Addr} {L : List Nat} (h : SQ w bx A L) (hk : ∀ b, b < w.heap.size → (b = bx ∨ ∃ o, A = some ⟨b, o, none⟩) → w'.heap[b]? = w.heap[b]?) : SQ w' bx A L := by
  obtain ⟨ws, c, h1, h2, h3⟩ := h
  exact ⟨ws, c, (World.cell?_of_block (hk bx (World.block_lt_of_cell? _ _ h1) (Or.inl rfl))).trans h1, h2.keep (fun b o _ e hl => hk b hl (Or.inr ⟨o, e⟩)), h3⟩
theorem SQ.below {w w' : World} {bx : Nat} {A : Option Addr} {L : List Nat} (h : SQ w bx A L) (hb : Below w.heap.size w w') : SQ w' bx A L := h.keep fun b hl _ => hb.block b hl
theorem SQ.lt {w : World} {bx : Nat} {A : Option Addr} {L : List Nat} (h : SQ w bx A L) : bx < w.heap.size := by obtain ⟨ws, c, h1, _⟩ := h; exact World.block_lt_of_cell? _ _ h1
theorem SQ.pos {w : World} {bx : Nat} {A : Option Addr} {L : List Nat} (h : SQ w bx A L) : ∀ x ∈ L, 1 ≤ x ∧ x ≤ 65535 := by
  obtain ⟨ws, c, _, _, h3⟩ := h
  exact fun x hx => ⟨((h3.mem x).1 hx).1, h3.le x hx⟩
theorem SQ.srt {w : World} {bx : Nat} {A : Option Addr} {L : List Nat} (h : SQ w bx A L) : Srt ltN L := by obtain ⟨_, _, _, _, h3⟩ := h; exact h3.srt
theorem SQ.len {w : World} {bx : Nat} {A : Option Addr} {L : List Nat} (h : SQ w bx A L) : L.length ≤ 65535 := by obtain ⟨_, _, _, _, h3⟩ := h; exact h3.length
theorem seq_stops {w : World} {bx : Nat} {A : Option Addr} {L : List Nat} (n : Nat) (hn : 1 ≤ n) (h : SQ w bx A L) (hG : GloT w) (LS : List N16) (hLS : LS.map (·.1) = L) :
    SeqStopsK Fence.wide n Tryd.prog 27 #[.pointer (some ⟨bx, 0, none⟩)] EncN (KpG (SG bx A)) (fun ys => ys = LS) (fun pre => pre <+: LS) LS.length w := fun l J Jx W hW _ _ hY h0 => by
  obtain ⟨ws, c, h1, h2, h3⟩ := h
  exact iter_in n l bx c A ws L J Jx LS hLS W ((hW.cell (World.block_lt_of_cell? _ _ h1)).trans h1) (h2.below hW) (hG.below hW) h3 hn hY h0
@[go_sem] theorem u64s_nil (A : Option Addr) (n c : Nat) (W : World) : (binOp .eql 32 (.slice A n c) (.slice none 0 0)).run Tryd.prog W = .ok (.bool A.isNone) W := by
  have h := run_equal_slice_nil (P := Tryd.prog) W 32 53 A n c Tryd.underlying32
  simp [binOp, h]
/-- A copy of a slice. -/
def ClP (w : World) (n : Nat) (xs : List Value) (e : Ending) (w' : World) : Prop :=
  ∃ A' c', e = .returned (.slice A' n c') ∧ Vals w' A' n xs ∧ (A' = none → c' = 0) ∧ Below w.heap.size w w' ∧ ∀ b o, A' = some ⟨b, o, none⟩ → w.heap.size ≤ b ∧ b < w'.heap.size
theorem clone_eq {w : World} {A : Option Addr} {n c : Nat} {xs : List Value} (hV : Vals w A n xs) (hone : ∀ u ∈ xs, u.oneCell' = true) (hc : A = none → c = 0) (hn : n ≤ 100000) :
    Calls Tryd.prog 26 #[.slice A n c] w fun e w' => ClP w n xs e w' := by
  cases A with
  | none =>
    have hn0 : n = 0 := by
      rcases Nat.eq_zero_or_pos n with h0 | h0
      · exact h0
      · obtain ⟨_, _, e, _⟩ := hV.2 h0
        cases e
    subst hn0
    obtain rfl := hc rfl
    have HV := Lib.hid hV
    clear hV hone hc
    go_enter Tryd.func26, Tryd.ntmps26
    go_wp2_with fail
    go_ret
    exact ⟨none, 0, rfl, HV.out, fun _ => rfl, Below.refl _ _, fun b o e => by cases e⟩
  | some ad =>
    have hrow0 : (w.alloc (.cells #[] 53)).ownsRow w.heap.size 53 1 (.slice (some ⟨w.heap.size, 0, none⟩) 0 0) 0 [] := World.ownsRow_lit w #[] 0 (Nat.le_refl _) (by unfold maxLen; omega) rfl
    have hbA : Below w.heap.size w (w.alloc (.cells #[] 53)) := below_alloc (Below.refl _ _) _
    obtain ⟨A', c', w4, hrun, hown4, hgr, _⟩ := v_append (P := Tryd.prog) (T := 32) (ty := 32) hrow0 (by simp) Tryd.underlying32 info64 rfl (by decide) (some ad) n c xs (hV.below hbA) hone (fun e => by cases e) (by omega)
    rw [Nat.zero_add, List.nil_append] at hown4
    rw [Nat.zero_add] at hrun
    have HRun := Lib.hid hrun
    have hb4 : Below w.heap.size w w4 := hbA.grown hgr (by simp) (fun k hk => by
      have : w.heap.size = k := by simpa [Value.ownBlock] using hk
      omega)
    have HB := Lib.hid hb4
    have HO := Lib.hid hown4
    clear hV hone hc hrow0 hbA hrun hown4 hgr hb4
    go_enter Tryd.func26, Tryd.ntmps26
    go_wp2_with (at_builtin; refine wpList_vapp rfl _ _ _ rfl rfl rfl HRun.out ?_)
    go_wp2_with fail
    go_ret
    obtain ⟨A2, c2, e, _, hV2, hc2, hob⟩ := vrow_form HO.out
    injection e with e1 e2 e3
    subst e1 e3
    refine ⟨A', c', rfl, hV2, hc2, HB.out, fun b o e => ?_⟩
    subst e
    have hlt := HO.out.lt
    rcases HO.out.2 with ⟨h, _⟩ | ⟨g, cap, cur, h, _⟩
    · cases h
    · injection h with h1
      injection h1 with h1
      injection h1 with h1 h2
      subst h1
      exact hlt b rfl
theorem u64_one (ws : List Nat) : ∀ u ∈ ws.map u64V, u.oneCell' = true := by
  intro u hu
  rw [List.mem_map] at hu
  obtain ⟨x, _, rfl⟩ := hu
  rfl
/-- What All tells. -/
def AllP (w : World) (L : List Nat) (e : Ending) (w' : World) : Prop :=
  ∃ bx A, e = .returned (.func (.func 27) #[] #[.pointer (some ⟨bx, 0, none⟩)]) ∧ SQ w' bx A L ∧ Below w.heap.size w w' ∧ w.heap.size ≤ bx ∧ ∀ b o, A = some ⟨b, o, none⟩ → w.heap.size ≤ b ∧ b < w'.heap.size
set_option maxHeartbeats 1000000 in
theorem all_raw {w : World} {t : Nat} {A : Option Addr} {c : Nat} {ws L : List Nat} (h1 : w.cell? ⟨t, 1, none⟩ = some (.slice A ws.length c)) (hV : Vals w A ws.length (ws.map u64V)) (hc : A = none → c = 0) (hW : WL ws L) :
    Calls Tryd.prog 21 #[.pointer (some ⟨t, 0, none⟩)] w fun e w' => AllP w L e w' := by
  obtain ⟨W, hWd⟩ : ∃ W, W = w.alloc (.cells #[.slice none 0 0] 32) := ⟨_, rfl⟩
  have hbW : Below w.heap.size w W := by rw [hWd]; exact below_alloc (Below.refl _ _) _
  have hsW : W.heap.size = w.heap.size + 1 := by rw [hWd]; simp
  have hcb : W.cell? ⟨w.heap.size, 0, none⟩ = some (.slice none 0 0) := by rw [hWd]; exact World.cell?_alloc_new _ _ _ _
  have hfb : W.frozen? ⟨w.heap.size, 0, none⟩ = false := by rw [hWd]; exact World.frozen?_alloc_at _ _ _ _ rfl
  have h1' : (w.alloc (.cells #[.slice none 0 0] 32)).cell? ⟨t, 1, none⟩ = some (.slice A ws.length c) := by rw [← hWd]; exact (hbW.cell (World.block_lt_of_cell? _ _ h1)).trans h1
  have HV := Lib.hid (hV.below hbW)
  have HC := Lib.hid hc
  have HW := Lib.hid hW
  have hlw := hW.len
  have HCB := Lib.hid hcb
  have HFB := Lib.hid hfb
  have HBW := Lib.hid hbW
  clear hV hc hW hcb hfb hbW h1
  go_enter Tryd.func21, Tryd.ntmps21
  go_wp2_with fail
  rw [← hWd]
  refine (clone_eq HV.out (u64_one ws) HC.out (by omega)).mono ?_
  rintro e w2 ⟨A', c', rfl, hV2, hc2, hb2, hA2⟩
  have hl : w.heap.size < W.heap.size := by omega
  have k1 := (hb2.cell (p := ⟨w.heap.size, 0, none⟩) hl).trans HCB.out
  have k2 := (World.frozen?_of_block (a := ⟨w.heap.size, 0, none⟩) (hb2.block _ hl)).trans HFB.out
  have HV2 := Lib.hid hV2
  have HB2 := Lib.hid hb2
  have HA2 := Lib.hid hA2
  have HK1 := Lib.hid k1
  clear hc2 hV2 hb2 hA2
  go_wp2_with fail
  go_ret
  refine ⟨w.heap.size, A', rfl, ⟨ws, c', World.cell?_setCell_same _ _ _ HK1.out, ?_, HW.out⟩, ?_, Nat.le_refl _, fun b o e => ?_⟩
  · refine HV2.out.keep fun b o _ e _ => heap_setCell_other w2 ⟨w.heap.size, 0, none⟩ b _ (fun e2 => ?_)
    have h3 := (HA2.out b o e).1
    have h4 : b = w.heap.size := e2
    omega
  · exact ((HBW.out).trans (HB2.out.mono (by omega))).setCell (p := ⟨w.heap.size, 0, none⟩) (Nat.le_refl _) _
  · obtain ⟨h3, h4⟩ := HA2.out b o e
    exact ⟨by omega, by simpa [World.setCell] using h4⟩
theorem iAll {w : World} {t : Nat} {F : Nat → Prop} {L : List Nat} (h : PI w t F L) : Calls Tryd.prog 21 #[.pointer (some ⟨t, 0, none⟩)] w fun e w' => AllP w L e w' := by
  obtain ⟨v, ws, h1, h2, _, h4, _⟩ := h
  obtain ⟨A, c, rfl, _, hV, hc, _⟩ := vrow_form h2
  exact all_raw (cell_of_row w t 1 _ _ _ h1) hV hc h4
theorem iAllN (w : World) : Calls Tryd.prog 21 #[.pointer none] w fun e w' => AllP w [] e w' := by
  go_enter Tryd.func21, Tryd.ntmps21
  go_wp2_with fail
  go_ret
  exact ⟨w.heap.size, none, rfl, ⟨[], 0, World.cell?_alloc_new _ _ _ _, Vals.nil none, WL.nil⟩, below_alloc (Below.refl _ _) _, Nat.le_refl _, fun b o e => by cases e⟩
/-! No pool; one that New has not made. -/
def ZI (w : World) (p : Option Addr) : Prop := p = none ∨ ∃ t, p = some ⟨t, 0, none⟩ ∧ w.heap[t]? = some (.cells #[.bool false, .slice none 0 0, .int .i64 0] 34 (0, 0))
section
variable {w w' : World} {p : Option Addr}
theorem ZI.below (h : ZI w p) (hb : Below w.heap.size w w') : ZI w' p := by
  rcases h with h | ⟨t, h1, h2⟩
  · exact Or.inl h
  · exact Or.inr ⟨t, h1, (hb.block t (Array.getElem?_eq_some_iff.1 h2).1).trans h2⟩
theorem zAll (h : ZI w p) : Calls Tryd.prog 21 #[.pointer p] w fun e w' => AllP w [] e w' := by
  rcases h with rfl | ⟨t, rfl, h⟩
  · exact iAllN w
  · exact all_raw (ws := []) (cell_of_row w t 1 _ _ _ h) (Vals.nil none) (fun _ => rfl) WL.nil
theorem zTake (h : ZI w p) : Calls Tryd.prog 10 #[.pointer p] w fun e w' => e = .returned (.tuple #[.int .u16 0, .int .i64 8]) ∧ w = w' := by
  rcases h with rfl | ⟨t, rfl, h⟩
  · exact iTakeN w
  · have c0 := cell_of_row w t 0 _ _ _ h
    go_enter Tryd.func10, Tryd.ntmps10
    go_wp2_with fail
    go_ret2
    exact ⟨rfl, rfl⟩
theorem zLen (h : ZI w p) : Calls Tryd.prog 11 #[.pointer p] w fun e w' => e = .returned (.int .i64 0) ∧ w = w' := by
  rcases h with rfl | ⟨t, rfl, h⟩
  · go_enter Tryd.func11, Tryd.ntmps11
    go_wp2_with fail
    go_ret
    exact ⟨rfl, rfl⟩
  · have c0 := cell_of_row w t 2 _ _ _ h
    go_enter Tryd.func11, Tryd.ntmps11
    go_wp2_with fail
    go_ret
    exact ⟨rfl, rfl⟩
set_option maxRecDepth 100000 in
theorem zHas (h : ZI w p) (id : Nat) (hid : id ≤ 65535) : Calls Tryd.prog 13 #[.pointer p, .int .u16 (id : Nat)] w fun e w' => e = .returned (.bool false) ∧ Below w.heap.size w w' := by
  obtain ⟨q, hq⟩ : ∃ q, (id + 65535) % 65536 = q := ⟨_, rfl⟩
  obtain ⟨k, hk⟩ : ∃ k, q / 64 = k := ⟨_, rfl⟩
  obtain ⟨b, hb⟩ : ∃ b, q % 64 = b := ⟨_, rfl⟩
  obtain ⟨m, hm⟩ : ∃ m, 2 ^ b = m := ⟨_, rfl⟩
  have HQ := Lib.hid hq
  have HK := Lib.hid hk
  have HB := Lib.hid hb
  have HM := Lib.hid hm
  clear hq hk hb hm
  rcases h with rfl | ⟨t, rfl, h⟩
  · go_enter Tryd.func13, Tryd.ntmps13
    go_wp2_with fail
    refine (place_any id q k b m w hid HQ.out HK.out HB.out HM.out).mono ?_
    rintro e w1 ⟨rfl, hb1⟩
    go_wp2_with fail
    go_ret
    exact ⟨rfl, hb1⟩
  · have c1 := cell_of_row w t 1 _ _ _ h
    have hkI : ¬ (k : Int) < 0 := by omega
    go_enter Tryd.func13, Tryd.ntmps13
    go_wp2_with fail
    refine (place_any id q k b m w hid HQ.out HK.out HB.out HM.out).mono ?_
    rintro e w1 ⟨rfl, hb1⟩
    have d1 := (hb1.cell (World.block_lt_of_cell? _ _ c1)).trans c1
    go_wp2_with fail
    go_ret
    exact ⟨rfl, hb1⟩
theorem zFree (h : ZI w p) (id : Nat) (hid : id ≤ 65535) : Calls Tryd.prog 12 #[.pointer p, .int .u16 (id : Nat)] w fun e w' => e = .returned (.bool false) ∧ Below w.heap.size w w' := by
  have H := Lib.hid h
  clear h
  go_enter Tryd.func12, Tryd.ntmps12
  go_wp2_with fail
  refine (zHas H.out id hid).mono ?_
  rintro e w1 ⟨rfl, hb1⟩
  go_wp2_with fail
  go_ret
  exact ⟨rfl, hb1⟩
end
end Go.Proofs.YtckgglgecpmikaaDoor
