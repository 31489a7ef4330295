/-
  keep: the messages in order: the iterator that list ranges over.
-/
import Derived.Test.YthhadjnffeadfaaGreatDoorKpSet
import Derived.Test.YthhadjnffeadfaaGreatDoorTgKeys
import Derived.RangeFuncNested
import Derived.RangeFuncBox
import Derived.RangeFuncBound
import Derived.RangeFuncCalls
import Derived.RangeFuncLeaves
import Derived.Shelf.Abstract
import Derived.Shelf.RegionOpen
import Derived.WalkKit
import Derived.OwnWalkIn
import Derived.TacticsInMore
import Derived.LoopNIn
import Derived.LoopIn
set_option linter.unusedSimpArgs false
set_option linter.unusedVariables false
namespace Go.Proofs.YthhadjnffeadfaaGreatDoor
open Go.RowKit Go.Maps Go.Sort Go.Shelf

/-! What a round of the loop keeps: all but the row that it gathers. -/
def RowOf (W : World) (bl b : Nat) : Prop := ∃ v, W.cell? ⟨bl, 0, none⟩ = some v ∧ v.ownBlock = some b
def IsC (W : World) (b : Nat) : Prop := ∃ cs t fr, W.heap[b]? = some (.cells cs t fr)
structure KpL (n0 bl : Nat) (W W' : World) : Prop where
  size : W.heap.size ≤ W'.heap.size
  block : ∀ b, b < W.heap.size → b ≠ bl → ¬ RowOf W bl b → (b < n0 ∨ IsC W b) → W'.heap[b]? = W.heap[b]?
  row : ∀ b, RowOf W' bl b → RowOf W bl b ∨ W.heap.size ≤ b
section
variable {n0 bl : Nat} {A B C W W' : World}
theorem KpL.t (h : KpL n0 bl A B) (k : KpL n0 bl B C) : KpL n0 bl A C := by
  refine ⟨Nat.le_trans h.size k.size, fun b hb hne hr hc => ?_, fun b hb => ?_⟩
  · have e := h.block b hb hne hr hc
    refine (k.block b (Nat.lt_of_lt_of_le hb h.size) hne (fun hr2 => ?_) ?_).trans e
    · rcases h.row b hr2 with h2 | h2
      · exact hr h2
      · omega
    · rcases hc with hc | ⟨cs, t, fr, hc⟩
      · exact Or.inl hc
      · exact Or.inr ⟨cs, t, fr, e.trans hc⟩
  · rcases k.row b hb with h2 | h2
    · exact h.row b h2
    · exact Or.inr (Nat.le_trans h.size h2)
theorem KpL.b (hbl : bl < n0) {w : World} (hn : n0 ≤ w.heap.size) (W : World) (l : Nat) (o o' : Obj) (hl : w.heap.size ≤ l) (h : W.heap[l]? = some o) (ho : o.isCells = false) (_ : o.isWalk = false) : KpL n0 bl W (W.putObj l o') := by
  refine ⟨by simp, fun b hb hne hr hc => ?_, fun b hb => ?_⟩
  · refine World.putObj_heap_other (fun e => ?_)
    subst e
    rcases hc with hc | ⟨cs, t, fr, hc⟩
    · omega
    · rw [h] at hc; cases hc; cases ho
  · obtain ⟨v, h1, h2⟩ := hb
    refine Or.inl ⟨v, ?_, h2⟩
    rw [← h1]
    exact (World.cell?_of_block (World.putObj_heap_other (by show bl ≠ l; omega))).symm
end
section
variable {w w' : World} {t : Nat} {F : Nat → Prop} {L : List Ms}
/-- Texts that are told in memory of their own. -/
def OSK (w : World) (M : List (List UInt8)) (e : Ending) (w' : World) : Prop := ∃ v, e = .returned v ∧ OwnS 9 w.heap.size w w' v M
theorem kkeys_eq (mb : Option Nat) (W : World) : Calls Tryz.prog 44 #[.map mb] W fun e w' => e = .returned (.func (.func 58) #[] #[.pointer (some ⟨W.heap.size, 0, none⟩)]) ∧ w' = W.alloc (.cells #[.map mb] 42) :=
  callsIn_wide.1 (AnyZ.keys_in Tryz.keys46 Fence.wide 5 trivial rfl mb W)
set_option maxHeartbeats 1000000 in
theorem ksorted_some {b : Nat} (hC : MM w b (getM L)) (hS : Srt kB L) (hL : L.length ≤ 1000000) :
    Calls Tryz.prog 43 #[.func (.func 58) #[] #[.pointer (some ⟨w.heap.size, 0, none⟩)]] (w.alloc (.cells #[.map (some b)] 42)) fun e w' => OSK w (L.map (·.1)) e w' := by
  obtain ⟨D, hown, hk⟩ := hC
  obtain ⟨k1, hk1, hk2, hk3, hk4⟩ := MM.keys hown hk
  have hmem : ∀ x, x ∈ k1 ↔ x ∈ L.map (·.1) := fun x => by
    rw [hk3, List.mem_map]
    constructor
    · intro hne
      cases hg : getM L x with
      | none => exact absurd hg hne
      | some m => exact ⟨m, get_mem hg, get_topic hg⟩
    · rintro ⟨m, hm, rfl⟩
      rw [(get_some hS).2 ⟨hm, rfl⟩]
      simp
  have hsz : Maps.size D ≤ 1000000 := by
    rw [← hk2]
    have := sub_len k1 (L.map (·.1)) hk1 (fun x hx => (hmem x).1 hx)
    rw [List.length_map] at this
    omega
  have hbl := hown.lt
  have hseq : SeqGives Fence.wide 2 Tryz.prog 58 #[.pointer (some ⟨w.heap.size, 0, none⟩)] encStr (fun ss => ss.Perm (strKeys D)) (Maps.size D) (w.alloc (.cells #[.map (some b)] 42)) :=
    AnyZ.keys_gives (ρ := Tryz.keys46_ren) { Tryz.keys46 with } Fence.wide _ trivial rfl (by omega) w.heap.size b (Maps.size D) D _ (by simp) (by simp) (by
      obtain ⟨es, clock, hb, Ft, hs, hD⟩ := hown
      exact ⟨es, clock, (Below.heap_alloc _ _ b hbl).trans hb, Ft, hs, hD⟩)
  refine (callsIn_wide.1 (AnyZ.sorted_in Tryz.sorted45 Fence.wide 5 trivial trivial trivial trivial rfl (by omega) (sorts_in _) (enters_of Tryz.func57 (by kernel_rfl) rfl) 58 #[.pointer (some ⟨w.heap.size, 0, none⟩)] trivial (enters_of Tryz.func58 (by kernel_rfl) rfl) _ _ (by unfold maxLen; omega) (by omega) _ hseq)).mono ?_
  rintro e w' ⟨v, ss, rfl, hp, hrow, hnil, hb⟩
  have hnd : ss.Nodup := by rw [hp.nodup_iff, ← hk4]; exact hk1
  have hMs : L.map (·.1) = ss.mergeSort leB := by
    refine srt_ext lt_ord _ _ (srt_names hS) (sort_srt hnd) (fun x => ?_)
    rw [sort_mem, hp.mem_iff, ← hk4, hmem]
  have hb0 : Below w.heap.size w (w.alloc (.cells #[.map (some b)] 42)) := below_alloc (Below.refl _ _) _
  refine ⟨v, rfl, ?_, hb0.trans (hb.mono (by simp)), Nat.le_trans hb0.size hb.size⟩
  rw [hMs, sort_len]
  obtain ⟨h1, h2⟩ := hrow
  refine ⟨by simp, ?_⟩
  rcases h2 with h2 | ⟨g, cap, cur, e, hg, r⟩
  · exact Or.inl h2
  · exact Or.inr ⟨g, cap, cur, e, Nat.le_trans (by simp) hg, r⟩
set_option maxHeartbeats 1000000 in
theorem ksorted_none (w : World) :
    Calls Tryz.prog 43 #[.func (.func 58) #[] #[.pointer (some ⟨w.heap.size, 0, none⟩)]] (w.alloc (.cells #[.map none] 42)) fun e w' => OSK w [] e w' := by
  have hseq : SeqGives Fence.wide 2 Tryz.prog 58 #[.pointer (some ⟨w.heap.size, 0, none⟩)] encStr (fun ss : List (List UInt8) => ss = []) 0 (w.alloc (.cells #[.map none] 42)) :=
    AnyZ.keys_gives_nil (ρ := Tryz.keys46_ren) { Tryz.keys46 with } Fence.wide _ trivial rfl w.heap.size _ (by simp) (by simp)
  refine (callsIn_wide.1 (AnyZ.sorted_in Tryz.sorted45 Fence.wide 5 trivial trivial trivial trivial rfl (by omega) (sorts_in _) (enters_of Tryz.func57 (by kernel_rfl) rfl) 58 #[.pointer (some ⟨w.heap.size, 0, none⟩)] trivial (enters_of Tryz.func58 (by kernel_rfl) rfl) _ _ (by unfold maxLen; omega) (by omega) _ hseq)).mono ?_
  rintro e w' ⟨v, ss, rfl, rfl, hrow, hnil, hb⟩
  have hb0 : Below w.heap.size w (w.alloc (.cells #[.map none] 42)) := below_alloc (Below.refl _ _) _
  refine ⟨v, rfl, ?_, hb0.trans (hb.mono (by simp)), Nat.le_trans hb0.size hb.size⟩
  obtain rfl := hnil.2 rfl
  exact World.ownsRow_nil _ _ _ _
end
end Go.Proofs.YthhadjnffeadfaaGreatDoor
namespace Go.Proofs.YthhadjnffeadfaaGreatDoor
open Go.RowKit Go.Maps Go.Sort Go.Shelf
attribute [local go_sem] Oper.semAt_some
section
variable {w w' : World} {t : Nat} {F : Nat → Prop} {L : List Ms}
theorem KpL.refl {n0 bl : Nat} (W : World) : KpL n0 bl W W := ⟨Nat.le_refl _, fun _ _ _ _ _ => rfl, fun _ h => Or.inl h⟩
/-- What a store's map is. -/
def MbOk (w : World) (t : Nat) (L : List Ms) (mb : Option Nat) : Prop := match mb with | none => L = [] | some b => b ≠ t ∧ MM w b (getM L)
theorem ksorted_any {mb : Option Nat} (h : MbOk w t L mb) (hS : Srt kB L) (hL : L.length ≤ 1000000) :
    Calls Tryz.prog 43 #[.func (.func 58) #[] #[.pointer (some ⟨w.heap.size, 0, none⟩)]] (w.alloc (.cells #[.map mb] 42)) fun e w' => OSK w (L.map (·.1)) e w' := by
  cases mb with
  | none => obtain rfl := h; exact ksorted_none w
  | some b => exact ksorted_some h.2 hS hL
theorem OwnS.shape {B : Nat} {w0 wr : World} {v : Value} {xs : List (List UInt8)} (h : OwnS 9 B w0 wr v xs) : ∃ A c, v = .slice A xs.length c ∧ xs.length ≤ c ∧ Strs wr A xs.length xs ∧ ∀ b o, A = some ⟨b, o, none⟩ → B ≤ b ∧ IsC wr b := by
  rcases h.1.2 with ⟨rfl, hn⟩ | ⟨g, cap, cur, rfl, hB, hh, hc, _, _, _⟩
  · exact ⟨none, 0, by rw [hn], by omega, ⟨rfl, fun h => by omega⟩, fun b o e => by cases e⟩
  · refine ⟨_, _, rfl, hc, ⟨rfl, fun _ => ⟨g, 0, rfl, fun j x hx => ?_⟩⟩, fun b o e => by cases e; exact ⟨hB, _, _, _, hh⟩⟩
    have := h.1.cells (g := g) rfl j (strV x) (by simp [hx])
    have hadd : (⟨g, 0, none⟩ : Addr).add j = ⟨g, 0 + j, none⟩ := by unfold Addr.add; split <;> simp_all
    rw [hadd] at this
    exact this
/-- The iterator: it boxes its store. -/
theorem inOrder_eq (p : Option Addr) (w : World) :
    Calls Tryz.prog 35 #[.pointer p] w fun e w' => e = .returned (.func (.func 42) #[] #[.pointer (some ⟨w.heap.size, 0, none⟩)]) ∧ w' = w.alloc (.cells #[.pointer p] 25) := by
  go_enter Tryz.func35, Tryz.ntmps35
  go_wp2_with fail
  go_ret
  exact ⟨rfl, rfl⟩
/-- A round for yield, at each message. -/
abbrev MsS := { m : Ms // m.1.length ≤ 1000000 }
def EncM (m : MsS) : Array Value := #[.agg #[.string ⟨m.1.1.toArray⟩, .string ⟨m.1.2.1.toArray⟩, .int .u8 m.1.2.2.1, .bool m.1.2.2.2]]
theorem mss_of : ∀ (L : List Ms), (∀ x ∈ L, x.1.length ≤ 1000000) → ∃ LS : List MsS, LS.map (·.1) = L
  | [], _ => ⟨[], rfl⟩
  | a :: r, h => by
    obtain ⟨LS, e⟩ := mss_of r (fun x hx => h x (by simp [hx]))
    exact ⟨⟨a, h a (by simp)⟩ :: LS, by rw [List.map_cons, e]⟩
set_option maxRecDepth 100000 in
set_option maxHeartbeats 4000000 in
theorem order_in (n l kb n0 bl : Nat) (J Jx : List MsS → World → Prop) (LS : List MsS) (hLS : LS.map (·.1) = L) (W : World) (mb : Option Nat) (p : Option Addr) (hk0 : W.cell? ⟨kb, 0, none⟩ = some (.pointer p)) (hmsg : Calls Tryz.prog 24 #[.pointer p] W fun e w' => e = .returned (.map mb) ∧ W = w') (hm : MbOk W t L mb) (hmb : ∀ b, mb = some b → b < n0 ∧ b ≠ bl)
    (hn : 1 ≤ n) (hn0 : n0 ≤ W.heap.size) (hbl : bl < n0) (hcl : W.cell? ⟨bl, 0, none⟩ = some (.slice none 0 0)) (hS : Srt kB L) (hL : L.length ≤ 1000000) (hJ : AbidesFrom W.heap.size J)
    (hY : ∀ pre x W1, J pre W1 → pre.length < LS.length → YieldAt Fence.wide (n - 1) Tryz.prog l (EncM x) W1 fun e W' => (e = .returned (.bool true) ∧ J (pre ++ [x]) W' ∧ KpL n0 bl W1 W') ∨ (e = .returned (.bool false) ∧ Jx (pre ++ [x]) W'))
    (h0 : J [] W) :
    CallsIn Fence.wide n Tryz.prog 42 #[.func (.yield l) #[] #[], .pointer (some ⟨kb, 0, none⟩)] W fun e W' => (∃ v, e = .returned v) ∧ ((∃ xs, xs = LS ∧ J xs W') ∨ (∃ pre, pre <+: LS ∧ Jx pre W')) := by
  have HS := Lib.hid hS
  have HM := Lib.hid hm
  have HJ := Lib.hid hJ
  have HY := Lib.hid hY
  have HMB := Lib.hid hmb
  have hll : LS.length = L.length := by rw [← hLS, List.length_map]
  have HLS := Lib.hid hLS
  have HCL := Lib.hid hcl
  have HMSG := Lib.hid hmsg
  clear hS hm hJ hY hmb hcl hmsg hLS
  refine callsIn_of_wp Tryz.func42 rfl trivial ?_ rfl
  simp only [Tryz.ntmps42, List.size_toArray, List.length_cons, List.length_nil, Nat.reduceAdd, Nat.reduceSub, Array.replicate_succ, Array.replicate_zero, List.push_toArray, List.append_toArray, List.nil_append, List.cons_append]
  gi_wp2_with (first
    | (refine ⟨trivial, ?_⟩; gi_at_call 24; refine (callsIn_wide.2 HMSG.out).mono ?_; rintro e w' ⟨rfl, rfl⟩)
    | (refine ⟨trivial, ?_⟩; gi_at_call 44; refine (callsIn_wide.2 (kkeys_eq mb W)).mono ?_; rintro e w' ⟨rfl, rfl⟩)
    | (refine ⟨trivial, ?_⟩; gi_at_call 43; refine (callsIn_wide.2 (ksorted_any (w := W) HM.out HS.out hL)).mono ?_; rintro e w6 ⟨v, rfl, hO⟩; obtain ⟨A, c, rfl, hnc, hstr, hblk⟩ := hO.shape; have hb6 := hO.below; clear hO))
  have hlen : (L.map (·.1)).length = L.length := List.length_map ..
  have hJ6 : J [] w6 := HJ.out [] W w6 none h0 ⟨hb6.os, hb6.tape, hb6.output, hb6.size, fun k hk _ => hb6.block k hk⟩ (fun r e => by cases e)
  have hcl6 : ∀ b, ¬ RowOf w6 bl b := by
    rintro b ⟨v, h1, h2⟩
    rw [(hb6.cell (World.block_lt_of_cell? _ _ HCL.out)).trans HCL.out] at h1
    cases h1
    simp [Value.ownBlock] at h2
  have HCL6 := Lib.hid hcl6
  have HSTR := Lib.hid hstr
  have HBLK := Lib.hid hblk
  have HB6 := Lib.hid hb6
  clear hstr hblk hb6 hcl6
  rw [hlen] at hnc
  gi_loopw [12] (fun i wr => ∃ k : Nat, k ≤ L.length ∧ i = .int .i64 k ∧ J (LS.take k) wr ∧ KpL n0 bl w6 wr) (fun i _ => L.length - (intOf i).toNat)
  case atStart => exact ⟨0, Nat.zero_le _, rfl, hJ6, KpL.refl _⟩
  case round =>
    obtain ⟨k, hk, rfl, hJs, hKp⟩ := hrel
    by_cases hlt : k < L.length
    · have hST : Strs wr A L.length (L.map (·.1)) := by
        have h1 := HSTR.out
        rw [hlen] at h1
        refine ⟨hlen, fun h0 => ?_⟩
        obtain ⟨b, off, e, hcc⟩ := h1.2 h0
        refine ⟨b, off, e, fun j x hx => ?_⟩
        have h2 := hcc j x hx
        obtain ⟨h3, h4⟩ := HBLK.out b off e
        exact (World.cell?_of_block (hKp.block b (World.block_lt_of_cell? _ _ h2) (by omega) (HCL6.out b) (Or.inr h4))).trans h2
      obtain ⟨m, hm⟩ : ∃ m, L[k]? = some m := ⟨L[k], List.getElem?_eq_getElem hlt⟩
      obtain ⟨b1, o1, x, rfl, hx, hcx⟩ := hST.at_ hlt
      have hxm : x = m.1 := by rw [List.getElem?_map, hm] at hx; simpa using hx.symm
      subst hxm
      have hmem := List.mem_of_getElem? hm
      obtain ⟨ms, hms, hmsm⟩ : ∃ ms : MsS, LS[k]? = some ms ∧ ms.1 = m := by
        have h9 := hm
        rw [← HLS.out, List.getElem?_map, Option.map_eq_some_iff] at h9
        exact h9
      have hlm : m.1.length ≤ 1000000 := by rw [← hmsm]; exact ms.2
      obtain ⟨b, hbm, hlk⟩ : ∃ b, mb = some b ∧ (Instr.lookup 42 (.map (some b)) (.string ⟨m.1.toArray⟩) false).run Tryz.prog wr = .ok (.agg #[.string ⟨m.1.toArray⟩, .string ⟨m.2.1.toArray⟩, .int .u8 m.2.2.1, .bool m.2.2.2]) wr := by
        cases hmb : mb with
        | none =>
          have h1 := HM.out
          rw [hmb] at h1
          rw [show L = [] from h1] at hlt
          simp at hlt
        | some b =>
          have h1 := HM.out
          rw [hmb] at h1
          obtain ⟨h2, h3⟩ := HMB.out b hmb
          have h4 : MM wr b (getM L) := by
            refine (MM.below h1.2 HB6.out).keep (hKp.block b ?_ h3 (HCL6.out b) (Or.inl h2))
            have := HB6.out.size
            omega
          exact ⟨b, rfl, h4.look1 (by unfold maxLen; omega) m ((get_some HS.out).2 ⟨hmem, rfl⟩)⟩
      subst hbm
      have hN : LS.take (k + 1) = LS.take k ++ [ms] := by rw [List.take_add_one, hms]; rfl
      obtain ⟨fn, tmps, assign, body, hy, hR⟩ := HY.out _ ms wr hJs (by rw [List.length_take]; omega)
      unfold EncM at hy
      rw [hmsm] at hy
      have HX := Lib.hid hx
      have HN := Lib.hid hN
      clear hx hm hN hms
      gi_wp2
      refine hR.mono ?_
      rintro e W3 (⟨rfl, hJ3, hk3⟩ | ⟨rfl, hJx3⟩)
      · gi_wp2
        go_roundw
        case rel => exact ⟨k + 1, by omega, by simp, by rw [HN.out]; exact hJ3, hKp.t hk3⟩
        case measure => simp [intOf]; omega
      · gi_wp2
        refine bodyPost_ret (results_none rfl _ _ _) rfl ?_
        exact ⟨⟨_, rfl⟩, .inr ⟨_, by rw [← HN.out]; exact List.take_prefix _ _, hJx3⟩⟩
    · obtain rfl : k = L.length := by omega
      gi_wp2
      go_end0
      exact ⟨⟨_, rfl⟩, .inl ⟨_, rfl, by rw [← hll, List.take_length] at hJs; exact hJs⟩⟩
end
end Go.Proofs.YthhadjnffeadfaaGreatDoor
