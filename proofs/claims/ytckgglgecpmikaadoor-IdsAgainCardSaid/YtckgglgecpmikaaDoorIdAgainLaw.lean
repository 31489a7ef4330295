/-
  IdsAgain: ids that are freed in any row are taken again, rising; others stay. The card, without a bound: for every input.
-/
import Derived.Test.YtckgglgecpmikaaDoorIdHelp
import Derived.Test.YtckgglgecpmikaaDoorIdFrame
import Derived.Test.YtckgglgecpmikaaDoorTie
import Derived.Test.YtckgglgecpmikaaDoorCards
import Derived.SevenTiedAt
import Derived.ProofKit
set_option linter.unusedSimpArgs false
set_option linter.unusedVariables false
namespace Go.Proofs.YtckgglgecpmikaaDoor
section
open Go.RowKit
def oIdAgainLaw1 : Oper := ({ dst := some 47, op := Go.Op.move (Go.Operand.tmp 9), type := 4, pos := "outright.go:98", after := #[], guard := none } : Oper)
def oIdAgainLaw2 : Oper := ({ dst := some 48, op := Go.Op.move (Go.Operand.tmp 1), type := 30, pos := "outright.go:98", after := #[], guard := none } : Oper)
def oIdAgainLaw3 : Oper := ({ dst := some 49, op := Go.Op.move (Go.Operand.tmp 8), type := 3, pos := "outright.go:98", after := #[], guard := none } : Oper)
def oIdAgainLaw4 : Oper := ({ dst := some 50, op := Go.Op.indexAddr 30 (Go.Operand.tmp 48) (Go.Operand.tmp 49), type := 0, pos := "outright.go:98", after := #[{ on := 1, ground := Go.Ground.data }, { on := 2, ground := Go.Ground.data }], guard := none } : Oper)
def oIdAgainLaw5 : Oper := ({ dst := some 51, op := Go.Op.load 25 (Go.Operand.tmp 50), type := 25, pos := "outright.go:98", after := #[{ on := 3, ground := Go.Ground.data }], guard := none } : Oper)
def oIdAgainLaw6 : Oper := ({ dst := some 52, op := Go.Op.binOp Go.BinOp.geq 25 (Go.Operand.tmp 51) (Go.Operand.const (Go.Value.int Go.IntKind.u16 1)) 25, type := 4, pos := "outright.go:98", after := #[{ on := 4, ground := Go.Ground.data }], guard := none } : Oper)
def oIdAgainLaw7 : Oper := ({ dst := some 53, op := Go.Op.move (Go.Operand.tmp 52), type := 4, pos := "outright.go:98", after := #[{ on := 5, ground := Go.Ground.data }], guard := none } : Oper)
def oIdAgainLaw8 : Oper := ({ dst := some 54, op := Go.Op.move (Go.Operand.tmp 1), type := 30, pos := "outright.go:98", after := #[{ on := 6, ground := Go.Ground.guard }], guard := some (6, true) } : Oper)
def oIdAgainLaw9 : Oper := ({ dst := some 55, op := Go.Op.move (Go.Operand.tmp 8), type := 3, pos := "outright.go:98", after := #[{ on := 6, ground := Go.Ground.guard }], guard := some (6, true) } : Oper)
def oIdAgainLaw10 : Oper := ({ dst := some 56, op := Go.Op.indexAddr 30 (Go.Operand.tmp 54) (Go.Operand.tmp 55), type := 0, pos := "outright.go:98", after := #[{ on := 7, ground := Go.Ground.data }, { on := 8, ground := Go.Ground.data }, { on := 6, ground := Go.Ground.guard }], guard := some (6, true) } : Oper)
def oIdAgainLaw11 : Oper := ({ dst := some 57, op := Go.Op.load 25 (Go.Operand.tmp 56), type := 25, pos := "outright.go:98", after := #[{ on := 9, ground := Go.Ground.data }, { on := 6, ground := Go.Ground.guard }], guard := some (6, true) } : Oper)
def oIdAgainLaw12 : Oper := ({ dst := some 58, op := Go.Op.move (Go.Operand.tmp 0), type := 25, pos := "outright.go:98", after := #[{ on := 6, ground := Go.Ground.guard }], guard := some (6, true) } : Oper)
def oIdAgainLaw13 : Oper := ({ dst := some 59, op := Go.Op.binOp Go.BinOp.leq 25 (Go.Operand.tmp 57) (Go.Operand.tmp 58) 25, type := 4, pos := "outright.go:98", after := #[{ on := 10, ground := Go.Ground.data }, { on := 11, ground := Go.Ground.data }, { on := 6, ground := Go.Ground.guard }], guard := some (6, true) } : Oper)
def oIdAgainLaw14 : Oper := ({ dst := some 60, op := Go.Op.pick (Go.Operand.tmp 53) (Go.Operand.tmp 59) (Go.Operand.const (Go.Value.bool false)), type := 4, pos := "outright.go:98", after := #[{ on := 6, ground := Go.Ground.data }, { on := 12, ground := Go.Ground.data }], guard := none } : Oper)
def oIdAgainLaw15 : Oper := ({ dst := some 61, op := Go.Op.binOp Go.BinOp.neq 4 (Go.Operand.tmp 47) (Go.Operand.tmp 60) 4, type := 4, pos := "outright.go:98", after := #[{ on := 0, ground := Go.Ground.data }, { on := 13, ground := Go.Ground.data }], guard := none } : Oper)
def oIdAgainLaw16 : Oper := ({ dst := some 62, op := Go.Op.move (Go.Operand.tmp 61), type := 4, pos := "outright.go:98", after := #[{ on := 14, ground := Go.Ground.data }, { on := 6, ground := Go.Ground.chain }], guard := none } : Oper)
def oIdAgainLaw17 : Oper := ({ dst := some 63, op := Go.Op.move (Go.Operand.tmp 1), type := 30, pos := "outright.go:98", after := #[{ on := 15, ground := Go.Ground.guard }], guard := some (15, true) } : Oper)
def oIdAgainLaw18 : Oper := ({ dst := some 64, op := Go.Op.move (Go.Operand.tmp 8), type := 3, pos := "outright.go:98", after := #[{ on := 15, ground := Go.Ground.guard }], guard := some (15, true) } : Oper)
def oIdAgainLaw19 : Oper := ({ dst := some 65, op := Go.Op.slice 30 (Go.Operand.tmp 63) none (some (Go.Operand.tmp 64)) none, type := 30, pos := "outright.go:98", after := #[{ on := 16, ground := Go.Ground.data }, { on := 17, ground := Go.Ground.data }, { on := 15, ground := Go.Ground.guard }], guard := some (15, true) } : Oper)
def oIdAgainLaw20 : Oper := ({ dst := some 66, op := Go.Op.move (Go.Operand.tmp 1), type := 30, pos := "outright.go:98", after := #[{ on := 15, ground := Go.Ground.guard }], guard := some (15, true) } : Oper)
def oIdAgainLaw21 : Oper := ({ dst := some 67, op := Go.Op.move (Go.Operand.tmp 8), type := 3, pos := "outright.go:98", after := #[{ on := 15, ground := Go.Ground.guard }], guard := some (15, true) } : Oper)
def oIdAgainLaw22 : Oper := ({ dst := some 68, op := Go.Op.indexAddr 30 (Go.Operand.tmp 66) (Go.Operand.tmp 67), type := 0, pos := "outright.go:98", after := #[{ on := 19, ground := Go.Ground.data }, { on := 20, ground := Go.Ground.data }, { on := 15, ground := Go.Ground.guard }], guard := some (15, true) } : Oper)
def oIdAgainLaw23 : Oper := ({ dst := some 69, op := Go.Op.load 25 (Go.Operand.tmp 68), type := 25, pos := "outright.go:98", after := #[{ on := 21, ground := Go.Ground.data }, { on := 15, ground := Go.Ground.guard }], guard := some (15, true) } : Oper)
def oIdAgainLaw24 : Oper := ({ dst := some 70, op := Go.Op.call { callee := Go.Callee.value (Go.Operand.func 22), args := #[Go.Operand.tmp 65, Go.Operand.tmp 69], argTypes := #[30, 25] }, type := 4, pos := "outright.go:98", after := #[{ on := 18, ground := Go.Ground.data }, { on := 22, ground := Go.Ground.data }, { on := 15, ground := Go.Ground.chain }, { on := 15, ground := Go.Ground.guard }], guard := some (15, true) } : Oper)
def oIdAgainLaw25 : Oper := ({ dst := some 71, op := Go.Op.unOp Go.UnOp.not 4 (Go.Operand.tmp 70), type := 4, pos := "outright.go:98", after := #[{ on := 23, ground := Go.Ground.data }, { on := 15, ground := Go.Ground.guard }], guard := some (15, true) } : Oper)
def oIdAgainLaw26 : Oper := ({ dst := some 72, op := Go.Op.pick (Go.Operand.tmp 62) (Go.Operand.tmp 71) (Go.Operand.const (Go.Value.bool false)), type := 4, pos := "outright.go:98", after := #[{ on := 15, ground := Go.Ground.data }, { on := 24, ground := Go.Ground.data }], guard := none } : Oper)
def oIdAgainLaw27 : Oper := ({ dst := some 73, op := Go.Op.move (Go.Operand.tmp 72), type := 4, pos := "outright.go:98", after := #[{ on := 25, ground := Go.Ground.data }, { on := 23, ground := Go.Ground.chain }], guard := none } : Oper)
def oIdAgainLaw28 : Oper := ({ dst := some 74, op := Go.Op.move (Go.Operand.tmp 5), type := 22, pos := "outright.go:98", after := #[{ on := 26, ground := Go.Ground.guard }], guard := some (26, false) } : Oper)
def oIdAgainLaw29 : Oper := ({ dst := some 75, op := Go.Op.move (Go.Operand.tmp 1), type := 30, pos := "outright.go:98", after := #[{ on := 26, ground := Go.Ground.guard }], guard := some (26, false) } : Oper)
def oIdAgainLaw30 : Oper := ({ dst := some 76, op := Go.Op.move (Go.Operand.tmp 8), type := 3, pos := "outright.go:98", after := #[{ on := 26, ground := Go.Ground.guard }], guard := some (26, false) } : Oper)
def oIdAgainLaw31 : Oper := ({ dst := some 77, op := Go.Op.indexAddr 30 (Go.Operand.tmp 75) (Go.Operand.tmp 76), type := 0, pos := "outright.go:98", after := #[{ on := 28, ground := Go.Ground.data }, { on := 29, ground := Go.Ground.data }, { on := 26, ground := Go.Ground.guard }], guard := some (26, false) } : Oper)
def oIdAgainLaw32 : Oper := ({ dst := some 78, op := Go.Op.load 25 (Go.Operand.tmp 77), type := 25, pos := "outright.go:98", after := #[{ on := 30, ground := Go.Ground.data }, { on := 26, ground := Go.Ground.guard }], guard := some (26, false) } : Oper)
def oIdAgainLaw33 : Oper := ({ dst := some 80, op := Go.Op.move (Go.Operand.tmp 9), type := 4, pos := "outright.go:98", after := #[{ on := 26, ground := Go.Ground.guard }], guard := some (26, false) } : Oper)
def oIdAgainLaw34 : Oper := ({ dst := some 79, op := Go.Op.call { callee := Go.Callee.value (Go.Operand.func 12), args := #[Go.Operand.tmp 74, Go.Operand.tmp 78], argTypes := #[22, 25] }, type := 4, pos := "outright.go:98", after := #[{ on := 27, ground := Go.Ground.data }, { on := 31, ground := Go.Ground.data }, { on := 26, ground := Go.Ground.chain }, { on := 26, ground := Go.Ground.guard }], guard := some (26, false) } : Oper)
def oIdAgainLaw35 : Oper := ({ dst := some 81, op := Go.Op.binOp Go.BinOp.neq 4 (Go.Operand.tmp 79) (Go.Operand.tmp 80) 4, type := 4, pos := "outright.go:98", after := #[{ on := 32, ground := Go.Ground.data }, { on := 33, ground := Go.Ground.data }, { on := 26, ground := Go.Ground.guard }], guard := some (26, false) } : Oper)
def oIdAgainLaw36 : Oper := ({ dst := some 82, op := Go.Op.pick (Go.Operand.tmp 73) (Go.Operand.const (Go.Value.bool true)) (Go.Operand.tmp 81), type := 4, pos := "outright.go:98", after := #[{ on := 26, ground := Go.Ground.data }, { on := 34, ground := Go.Ground.data }], guard := none } : Oper)
end
open Go.RowKit Go.ChangeShapes Go.WideShapes Go.ChangeAt
namespace lawIdsAgain
/-- What is taken behind the k first frees. -/
def Gone (m : Nat) (l : List Nat) (L : List Nat) : Prop := ∀ i, i ∈ L ↔ (1 ≤ i ∧ i ≤ m) ∧ i ∉ l
theorem Gone.next {m k z : Nat} {l L : List Nat} (h : Gone m (l.take k) L) (hz : l[k]? = some z) : Gone m (l.take (k + 1)) (delN z L) := fun i => by
  rw [del_mem, h i, List.take_add_one, hz]
  simp only [Option.toList_some, List.mem_append, List.mem_singleton]
  constructor
  · rintro ⟨⟨h1, h2⟩, h3⟩
    exact ⟨h1, fun h4 => h4.elim h2 h3⟩
  · rintro ⟨h1, h2⟩
    exact ⟨⟨h1, fun h4 => h2 (Or.inl h4)⟩, fun h4 => h2 (Or.inr h4)⟩
/-- What is taken again: all up to last. -/
def Back (m last : Nat) (l : List Nat) (L : List Nat) : Prop := ∀ i, i ∈ L ↔ (1 ≤ i ∧ i ≤ m) ∧ (i ≤ last ∨ i ∉ l)
theorem Gone.back {m : Nat} {l L : List Nat} (h : Gone m l L) : Back m 0 l L := fun i => by
  rw [h i]
  constructor
  · rintro ⟨h1, h2⟩; exact ⟨h1, Or.inr h2⟩
  · rintro ⟨h1, h2⟩; exact ⟨h1, h2.elim (fun h3 => by omega) id⟩
theorem Back.least {m last id : Nat} {l L : List Nat} (h : Back m last l L) (hl : last ≤ m) (hid : Lst L id) (hm : id ≤ m) : last < id ∧ id ∈ l ∧ Back m id l (insO ltN id L) := by
  have h1 : last < id := by
    apply Nat.lt_of_not_le
    intro hle
    exact hid.no ((h id).2 ⟨⟨hid.pos, hm⟩, Or.inl hle⟩)
  refine ⟨h1, ?_, fun i => ?_⟩
  · apply Decidable.byContradiction
    intro hn
    exact hid.no ((h id).2 ⟨⟨hid.pos, hm⟩, Or.inr hn⟩)
  · rw [ins_mem]
    constructor
    · rintro (rfl | hi)
      · exact ⟨⟨hid.pos, hm⟩, Or.inl (Nat.le_refl _)⟩
      · obtain ⟨h2, h3⟩ := (h i).1 hi
        exact ⟨h2, h3.elim (fun h4 => Or.inl (by omega)) Or.inr⟩
    · rintro ⟨h2, h3⟩
      by_cases he : i = id
      · exact Or.inl he
      · right
        rcases h3 with h3 | h3
        · exact hid.low i h2.1 (by omega)
        · exact (h i).2 ⟨h2, Or.inr h3⟩
/-- When all are taken, the next one is behind them. -/
theorem lst_full {m : Nat} {L : List Nat} (hs : Srt ltN L) (hm : ∀ i ∈ L, 1 ≤ i ∧ i ≤ m) (hl : L.length = m) : Lst L (m + 1) := by
  obtain ⟨id, hid⟩ := lst_ex L hs (fun i hi => (hm i hi).1)
  have h1 := hid.len
  by_cases h2 : id ≤ m
  · have h3 := nodup_len (insO ltN id L) (ins_srt ltN_ord id L hs hid.no) m (fun i hi => by
      rcases (ins_mem id i L).1 hi with rfl | hi
      · exact ⟨hid.pos, h2⟩
      · exact hm i hi)
    rw [ins_len'] at h3
    omega
  · obtain rfl : id = m + 1 := by omega
    exact hid
theorem lst_le {m id : Nat} {L : List Nat} (hl : L.length < m) (hid : Lst L id) : id ≤ m := by have := hid.len; omega
set_option maxRecDepth 100000 in
set_option maxHeartbeats 16000000 in
theorem walk (w : World) (hG : GloT w) (m0 : Int) (hm0 : (Lit.int .u16 m0).wf = true) (A : Option Addr) (n c : Nat) (l : List Nat) (hs : Vals w A n (l.map fun (x : Nat) => Value.int .u16 (x : Int))) (hc : n ≤ c) (hn : n ≤ 9223372036854775807) (hi : Hid (∀ x ∈ l, x ≤ 65535)) :
    Calls Tryd.prog 7 #[.int .u16 m0, .slice A n c] w fun e w' => e = .returned (.bool true) ∧ Below w.heap.size w w' := by
  have HG := Lib.hid hG
  have HS : Hid (Vals w A n (l.map u16V)) := hs
  have hbd := u16_bd m0 hm0
  obtain ⟨m, rfl⟩ : ∃ m : Nat, m0 = (m : Int) := ⟨m0.toNat, by omega⟩
  have hnl : l.length = n := by have := hs.len; rwa [List.length_map] at this
  have HNL := Lib.hid hnl
  clear hG hs hm0 hnl
  by_cases hgr : m ≤ 300 ∧ n ≤ 100
  · obtain ⟨hm3, hn1⟩ := hgr
    have hmI : ¬ (m : Int) > 300 := by omega
    have hnI : ¬ (n : Int) > 100 := by omega
    go_enter Tryd.func7, Tryd.ntmps7
    go_wp2_with fail
    refine (iNew _).mono ?_
    intro e w1 hN
    obtain ⟨t, F, rfl, hP0⟩ := hN.own
    rw [← full_zero] at hP0
    clear hN
    go_wp2_with fail
    clear hmI hnI
    go_loopw [6] (fun i wr => ∃ (j : Nat) (F : Nat → Prop), i = .int .i64 j ∧ j ≤ m ∧ OwnP w.heap.size w wr t F (fullL j)) (fun i _ => m - (intOf i).toNat)
    case atStart => exact ⟨0, F, rfl, by omega, hP0⟩
    case round =>
      clear hP0
      obtain ⟨j, F, rfl, hj2, hP⟩ := hrel
      by_cases hlt : j < m
      · have HP := Lib.hid hP
        have hl : (fullL j).length < 65535 := by rw [full_len]; omega
        have hjI : (j : Int) < (m : Int) := by omega
        clear hP
        go_wp2_with fail
        refine (takes_any HP.out.pi (HG.out.below HP.out.below) (j + 1) _ hl (full_lst j) (full_ins j)).mono ?_
        rintro e w2 hK
        obtain ⟨F2, rfl, hP2⟩ := HP.out.fr hK
        clear hK
        go_wp2_with fail
        go_roundw
        case rel => exact ⟨j + 1, F2, by go_num, by omega, hP2⟩
        case measure => simp [intOf]; omega
      · obtain rfl : j = m := by omega
        have hGo : Gone j (l.take 0) (fullL j) := fun i => by rw [full_mem]; simp
        obtain ⟨L0, hL0⟩ : ∃ L0, L0 = fullL j := ⟨_, rfl⟩
        have hLen : L0.length + 0 = j := by rw [hL0, full_len]; omega
        rw [← hL0] at hP hGo
        have HP := Lib.hid hP
        have HGo := Lib.hid hGo
        clear hL0 hP hGo hlt
        go_wp2_with fail
        go_loopw [7, 8] (fun g i wr => ∃ (k g' : Nat) (F : Nat → Prop) (L : List Nat), i = .int .i64 k ∧ g = .int .i64 g' ∧ k ≤ n ∧ g' ≤ k ∧ L.length + g' = j ∧ Hid (Gone j (l.take k) L) ∧ OwnP w.heap.size w wr t F L) (fun _ i _ => n - (intOf i).toNat)
        case atStart => exact ⟨0, 0, F, L0, rfl, rfl, by omega, by omega, hLen, HGo.out, HP.out⟩
        case round =>
          clear hLen HGo HP
          obtain ⟨k, g, F, L, rfl, rfl, hk, hgk, hLg, hGo, hP⟩ := hrel
          have HP := Lib.hid hP
          by_cases hlt : k < n
          · obtain ⟨b1, o1, x, rfl, hx, hat⟩ := HS.out.at_ hlt
            have hb1l : b1 < w.heap.size := World.block_lt_of_cell? _ _ hat
            rw [List.getElem?_map, Option.map_eq_some_iff] at hx
            obtain ⟨z, hz, rfl⟩ := hx
            have hz65 := hi.out z (List.mem_of_getElem? hz)
            have hcx0 : wr.cell? ⟨b1, o1 + k, none⟩ = some (.int .u16 (z : Int)) := (hP.below.cell hb1l).trans hat
            have hkI : (k : Int) < (n : Int) := by omega
            have hk0 : (0 : Int) ≤ (k : Int) := by omega
            have HCX := Lib.hid hcx0
            have HGN := Lib.hid (hGo.out.next hz)
            obtain ⟨s, hs⟩ : ∃ s, decide (z ∈ L) = s := ⟨_, rfl⟩
            have HSS := Lib.hid hs
            have hsr : Srt ltN L := hP.pi.srt
            have HSR := Lib.hid hsr
            have HZ := Lib.hid hz
            have HBF : Hid (∀ b', F b' → b' ≠ b1) := fun b' hf e => by have := hP.own b' hf; omega
            clear hz hat hs hP hsr
            go_wp2_with fail
            refine (iHas HP.out.pi z s hz65 HSS.out).mono ?_
            rintro e w3 ⟨rfl, hb3⟩
            have HP3 := Lib.hid (HP.out.bl hb3)
            have hcx : w3.cell? ⟨b1, o1 + k, none⟩ = some (.int .u16 (z : Int)) := (hb3.cell (World.block_lt_of_cell? _ _ HCX.out)).trans HCX.out
            have HCX3 := Lib.hid hcx
            clear hb3 hcx0
            cases s with
            | true =>
              have hm : z ∈ L := of_decide_eq_true HSS.out
              obtain ⟨⟨hz1, hz2⟩, _⟩ := (hGo.out z).1 hm
              have hdl := del_len HSR.out hm
              have hzg : (1 : Int) ≤ (z : Int) := by omega
              have hzm : (z : Int) ≤ (j : Int) := by omega
              clear hm
              go_wp2_with fail
              refine wp_region_held_drew (S := (fun w' => w'.cell? ⟨b1, o1 + k, none⟩ = some (.int .u16 (z : Int)))) (by kernel_rfl) (HCX3.out) (fun hHeld => ?_)
              obtain ⟨wd, hwd⟩ : ∃ wd, wd = w3.drew := ⟨_, rfl⟩
              have hbd : Below w3.heap.size w3 wd := by rw [hwd]; exact (Below.refl _ _).drew
              rw [← hwd] at hHeld ⊢
              clear hwd hcx
              have HPd := Lib.hid (HP3.out.bl hbd)
              refine tkY 0 oIdAgainLaw1 ?vv4_14_0 rfl (by kernel_rfl) (by kernel_rfl) (by kernel_rfl) (fun _ _ _ h => h) (by rfl) ?hy4_14_0 (by assumption) ?rest4_14_0
              case hy4_14_0 => (intro w hSw; unfold oIdAgainLaw1; (try dsimp only at hSw); (try go_split_ands); go_simp; all_goals with_reducible rfl)
              try simp only [oIdAgainLaw1, Act.put, sA, sB, sC]
              refine tkY 1 oIdAgainLaw2 ?vv4_14_1 rfl (by kernel_rfl) (by kernel_rfl) (by kernel_rfl) (fun _ _ _ h => h) (by rfl) ?hy4_14_1 (by assumption) ?rest4_14_1
              case hy4_14_1 => (intro w hSw; unfold oIdAgainLaw2; (try dsimp only at hSw); (try go_split_ands); go_simp; all_goals with_reducible rfl)
              try simp only [oIdAgainLaw2, Act.put, sA, sB, sC]
              refine tkY 2 oIdAgainLaw3 ?vv4_14_2 rfl (by kernel_rfl) (by kernel_rfl) (by kernel_rfl) (fun _ _ _ h => h) (by rfl) ?hy4_14_2 (by assumption) ?rest4_14_2
              case hy4_14_2 => (intro w hSw; unfold oIdAgainLaw3; (try dsimp only at hSw); (try go_split_ands); go_simp; all_goals with_reducible rfl)
              try simp only [oIdAgainLaw3, Act.put, sA, sB, sC]
              refine tkY 3 oIdAgainLaw4 ?vv4_14_3 rfl (by kernel_rfl) (by kernel_rfl) (by kernel_rfl) (fun _ _ _ h => h) (by rfl) ?hy4_14_3 (by assumption) ?rest4_14_3
              case hy4_14_3 => (intro w hSw; unfold oIdAgainLaw4; (try dsimp only at hSw); (try go_split_ands); go_simp; all_goals with_reducible rfl)
              try simp only [oIdAgainLaw4, Act.put, sA, sB, sC]
              refine tkY 4 oIdAgainLaw5 ?vv4_15_4 rfl (by kernel_rfl) (by kernel_rfl) (by kernel_rfl) (fun _ _ _ h => h) (by rfl) ?hy4_15_4 (by assumption) ?rest4_15_4
              case hy4_15_4 => (intro w hSw; unfold oIdAgainLaw5; (try dsimp only at hSw); have q9 := hSw; clear hSw; go_simp; all_goals with_reducible rfl)
              try simp only [oIdAgainLaw5, Act.put, sA, sB, sC]
              refine tkY 5 oIdAgainLaw6 ?vv4_16_5 rfl (by kernel_rfl) (by kernel_rfl) (by kernel_rfl) (fun _ _ _ h => h) (by rfl) ?hy4_16_5 (by assumption) ?rest4_16_5
              case hy4_16_5 => (intro w hSw; unfold oIdAgainLaw6; (try dsimp only at hSw); (try go_split_ands); go_simp; all_goals with_reducible rfl)
              try simp only [oIdAgainLaw6, Act.put, sA, sB, sC]
              refine tkY 6 oIdAgainLaw7 ?vv4_16_6 rfl (by kernel_rfl) (by kernel_rfl) (by kernel_rfl) (fun _ _ _ h => h) (by rfl) ?hy4_16_6 (by assumption) ?rest4_16_6
              case hy4_16_6 => (intro w hSw; unfold oIdAgainLaw7; (try dsimp only at hSw); (try go_split_ands); go_simp; all_goals with_reducible rfl)
              try simp only [oIdAgainLaw7, Act.put, sA, sB, sC]
              refine tkY 7 oIdAgainLaw8 ?vv4_17_7 rfl (by kernel_rfl) (by kernel_rfl) (by kernel_rfl) (fun _ _ _ h => h) (by rfl) ?hy4_17_7 (by assumption) ?rest4_17_7
              case hy4_17_7 => (intro w hSw; unfold oIdAgainLaw8; (try dsimp only at hSw); (try go_split_ands); go_simp; all_goals with_reducible rfl)
              try simp only [oIdAgainLaw8, Act.put, sA, sB, sC]
              refine tkY 8 oIdAgainLaw9 ?vv4_17_8 rfl (by kernel_rfl) (by kernel_rfl) (by kernel_rfl) (fun _ _ _ h => h) (by rfl) ?hy4_17_8 (by assumption) ?rest4_17_8
              case hy4_17_8 => (intro w hSw; unfold oIdAgainLaw9; (try dsimp only at hSw); (try go_split_ands); go_simp; all_goals with_reducible rfl)
              try simp only [oIdAgainLaw9, Act.put, sA, sB, sC]
              refine tkY 9 oIdAgainLaw10 ?vv4_17_9 rfl (by kernel_rfl) (by kernel_rfl) (by kernel_rfl) (fun _ _ _ h => h) (by rfl) ?hy4_17_9 (by assumption) ?rest4_17_9
              case hy4_17_9 => (intro w hSw; unfold oIdAgainLaw10; (try dsimp only at hSw); (try go_split_ands); go_simp; all_goals with_reducible rfl)
              try simp only [oIdAgainLaw10, Act.put, sA, sB, sC]
              refine tkY 10 oIdAgainLaw11 ?vv4_18_10 rfl (by kernel_rfl) (by kernel_rfl) (by kernel_rfl) (fun _ _ _ h => h) (by rfl) ?hy4_18_10 (by assumption) ?rest4_18_10
              case hy4_18_10 => (intro w hSw; unfold oIdAgainLaw11; (try dsimp only at hSw); have q9 := hSw; clear hSw; go_simp; all_goals with_reducible rfl)
              try simp only [oIdAgainLaw11, Act.put, sA, sB, sC]
              refine tkY 11 oIdAgainLaw12 ?vv4_19_11 rfl (by kernel_rfl) (by kernel_rfl) (by kernel_rfl) (fun _ _ _ h => h) (by rfl) ?hy4_19_11 (by assumption) ?rest4_19_11
              case hy4_19_11 => (intro w hSw; unfold oIdAgainLaw12; (try dsimp only at hSw); (try go_split_ands); go_simp; all_goals with_reducible rfl)
              try simp only [oIdAgainLaw12, Act.put, sA, sB, sC]
              refine tkY 12 oIdAgainLaw13 ?vv4_19_12 rfl (by kernel_rfl) (by kernel_rfl) (by kernel_rfl) (fun _ _ _ h => h) (by rfl) ?hy4_19_12 (by assumption) ?rest4_19_12
              case hy4_19_12 => (intro w hSw; unfold oIdAgainLaw13; (try dsimp only at hSw); (try go_split_ands); go_simp; all_goals with_reducible rfl)
              try simp only [oIdAgainLaw13, Act.put, sA, sB, sC]
              refine tkY 13 oIdAgainLaw14 ?vv4_20_13 rfl (by kernel_rfl) (by kernel_rfl) (by kernel_rfl) (fun _ _ _ h => h) (by rfl) ?hy4_20_13 (by assumption) ?rest4_20_13
              case hy4_20_13 => (intro w hSw; unfold oIdAgainLaw14; (try dsimp only at hSw); (try go_split_ands); go_simp; all_goals with_reducible rfl)
              try simp only [oIdAgainLaw14, Act.put, sA, sB, sC]
              refine tkY 14 oIdAgainLaw15 ?vv4_20_14 rfl (by kernel_rfl) (by kernel_rfl) (by kernel_rfl) (fun _ _ _ h => h) (by rfl) ?hy4_20_14 (by assumption) ?rest4_20_14
              case hy4_20_14 => (intro w hSw; unfold oIdAgainLaw15; (try dsimp only at hSw); (try go_split_ands); go_simp; all_goals with_reducible rfl)
              try simp only [oIdAgainLaw15, Act.put, sA, sB, sC]
              refine tkY 15 oIdAgainLaw16 ?vv4_20_15 rfl (by kernel_rfl) (by kernel_rfl) (by kernel_rfl) (fun _ _ _ h => h) (by rfl) ?hy4_20_15 (by assumption) ?rest4_20_15
              case hy4_20_15 => (intro w hSw; unfold oIdAgainLaw16; (try dsimp only at hSw); (try go_split_ands); go_simp; all_goals with_reducible rfl)
              try simp only [oIdAgainLaw16, Act.put, sA, sB, sC]
              refine wpAnyH_take (i := 16) (oi := oIdAgainLaw17) (v := undef) rfl (by kernel_rfl) (by kernel_rfl) (by kernel_rfl) (fun _ _ _ h => h) (Or.inr ⟨by rfl, rfl⟩) (by assumption) ?rest4_21_16
              try simp only [oIdAgainLaw17, Act.put, sA, sB, sC]
              refine wpAnyH_take (i := 17) (oi := oIdAgainLaw18) (v := undef) rfl (by kernel_rfl) (by kernel_rfl) (by kernel_rfl) (fun _ _ _ h => h) (Or.inr ⟨by rfl, rfl⟩) (by assumption) ?rest4_21_17
              try simp only [oIdAgainLaw18, Act.put, sA, sB, sC]
              refine wpAnyH_take (i := 18) (oi := oIdAgainLaw19) (v := undef) rfl (by kernel_rfl) (by kernel_rfl) (by kernel_rfl) (fun _ _ _ h => h) (Or.inr ⟨by rfl, rfl⟩) (by assumption) ?rest4_21_18
              try simp only [oIdAgainLaw19, Act.put, sA, sB, sC]
              refine wpAnyH_take (i := 19) (oi := oIdAgainLaw20) (v := undef) rfl (by kernel_rfl) (by kernel_rfl) (by kernel_rfl) (fun _ _ _ h => h) (Or.inr ⟨by rfl, rfl⟩) (by assumption) ?rest4_21_19
              try simp only [oIdAgainLaw20, Act.put, sA, sB, sC]
              refine wpAnyH_take (i := 20) (oi := oIdAgainLaw21) (v := undef) rfl (by kernel_rfl) (by kernel_rfl) (by kernel_rfl) (fun _ _ _ h => h) (Or.inr ⟨by rfl, rfl⟩) (by assumption) ?rest4_21_20
              try simp only [oIdAgainLaw21, Act.put, sA, sB, sC]
              refine wpAnyH_take (i := 21) (oi := oIdAgainLaw22) (v := undef) rfl (by kernel_rfl) (by kernel_rfl) (by kernel_rfl) (fun _ _ _ h => h) (Or.inr ⟨by rfl, rfl⟩) (by assumption) ?rest4_21_21
              try simp only [oIdAgainLaw22, Act.put, sA, sB, sC]
              refine wpAnyH_take (i := 22) (oi := oIdAgainLaw23) (v := undef) rfl (by kernel_rfl) (by kernel_rfl) (by kernel_rfl) (fun _ _ _ h => h) (Or.inr ⟨by rfl, rfl⟩) (by assumption) ?rest4_21_22
              try simp only [oIdAgainLaw23, Act.put, sA, sB, sC]
              refine wpAnyH_take (i := 23) (oi := oIdAgainLaw24) (v := undef) rfl (by kernel_rfl) (by kernel_rfl) (by kernel_rfl) (fun _ _ _ h => h) (Or.inr ⟨by rfl, rfl⟩) (by assumption) ?rest4_21_23
              try simp only [oIdAgainLaw24, Act.put, sA, sB, sC]
              refine wpAnyH_take (i := 24) (oi := oIdAgainLaw25) (v := undef) rfl (by kernel_rfl) (by kernel_rfl) (by kernel_rfl) (fun _ _ _ h => h) (Or.inr ⟨by rfl, rfl⟩) (by assumption) ?rest4_21_24
              try simp only [oIdAgainLaw25, Act.put, sA, sB, sC]
              refine tkY 25 oIdAgainLaw26 ?vv4_22_25 rfl (by kernel_rfl) (by kernel_rfl) (by kernel_rfl) (fun _ _ _ h => h) (by rfl) ?hy4_22_25 (by assumption) ?rest4_22_25
              case hy4_22_25 => (intro w hSw; unfold oIdAgainLaw26; (try dsimp only at hSw); (try go_split_ands); go_simp; all_goals with_reducible rfl)
              try simp only [oIdAgainLaw26, Act.put, sA, sB, sC]
              refine tkY 26 oIdAgainLaw27 ?vv4_22_26 rfl (by kernel_rfl) (by kernel_rfl) (by kernel_rfl) (fun _ _ _ h => h) (by rfl) ?hy4_22_26 (by assumption) ?rest4_22_26
              case hy4_22_26 => (intro w hSw; unfold oIdAgainLaw27; (try dsimp only at hSw); (try go_split_ands); go_simp; all_goals with_reducible rfl)
              try simp only [oIdAgainLaw27, Act.put, sA, sB, sC]
              refine tkY 27 oIdAgainLaw28 ?vv4_22_27 rfl (by kernel_rfl) (by kernel_rfl) (by kernel_rfl) (fun _ _ _ h => h) (by rfl) ?hy4_22_27 (by assumption) ?rest4_22_27
              case hy4_22_27 => (intro w hSw; unfold oIdAgainLaw28; (try dsimp only at hSw); (try go_split_ands); go_simp; all_goals with_reducible rfl)
              try simp only [oIdAgainLaw28, Act.put, sA, sB, sC]
              refine tkY 28 oIdAgainLaw29 ?vv4_22_28 rfl (by kernel_rfl) (by kernel_rfl) (by kernel_rfl) (fun _ _ _ h => h) (by rfl) ?hy4_22_28 (by assumption) ?rest4_22_28
              case hy4_22_28 => (intro w hSw; unfold oIdAgainLaw29; (try dsimp only at hSw); (try go_split_ands); go_simp; all_goals with_reducible rfl)
              try simp only [oIdAgainLaw29, Act.put, sA, sB, sC]
              refine tkY 29 oIdAgainLaw30 ?vv4_22_29 rfl (by kernel_rfl) (by kernel_rfl) (by kernel_rfl) (fun _ _ _ h => h) (by rfl) ?hy4_22_29 (by assumption) ?rest4_22_29
              case hy4_22_29 => (intro w hSw; unfold oIdAgainLaw30; (try dsimp only at hSw); (try go_split_ands); go_simp; all_goals with_reducible rfl)
              try simp only [oIdAgainLaw30, Act.put, sA, sB, sC]
              refine tkY 30 oIdAgainLaw31 ?vv4_22_30 rfl (by kernel_rfl) (by kernel_rfl) (by kernel_rfl) (fun _ _ _ h => h) (by rfl) ?hy4_22_30 (by assumption) ?rest4_22_30
              case hy4_22_30 => (intro w hSw; unfold oIdAgainLaw31; (try dsimp only at hSw); (try go_split_ands); go_simp; all_goals with_reducible rfl)
              try simp only [oIdAgainLaw31, Act.put, sA, sB, sC]
              refine tkY 31 oIdAgainLaw32 ?vv4_23_31 rfl (by kernel_rfl) (by kernel_rfl) (by kernel_rfl) (fun _ _ _ h => h) (by rfl) ?hy4_23_31 (by assumption) ?rest4_23_31
              case hy4_23_31 => (intro w hSw; unfold oIdAgainLaw32; (try dsimp only at hSw); have q9 := hSw; clear hSw; go_simp; all_goals with_reducible rfl)
              try simp only [oIdAgainLaw32, Act.put, sA, sB, sC]
              refine tkY 33 oIdAgainLaw33 ?vv4_24_33 rfl (by kernel_rfl) (by kernel_rfl) (by kernel_rfl) (fun _ _ _ h => h) (by rfl) ?hy4_24_33 (by assumption) ?rest4_24_33
              case hy4_24_33 => (intro w hSw; unfold oIdAgainLaw33; (try dsimp only at hSw); (try go_split_ands); go_simp; all_goals with_reducible rfl)
              try simp only [oIdAgainLaw33, Act.put, sA, sB, sC]
              refine wpAnyH_ready (rs := [32]) (by kernel_rfl) (by simp) ?_
              refine AllReadyH.cons (o := oIdAgainLaw34) rfl (fun K hK => ?_) AllReadyH.nil
              unfold oIdAgainLaw34
              go_simp
              (go_at_call 12; refine (iFree_any HPd.out.pi z true hz65 HSS.out).mono ?_; rintro e w4 ⟨F4, rfl, hP4, hU4, hV4⟩)
              refine hK.out _ _ ?_ (fun hHeld => ?_)
              · (exact hU4.cell _ _ hHeld (fun hf => HBF.out _ hf rfl))
              clear hK K
              try simp only [oIdAgainLaw34, Act.put, sA, sB, sC]
              refine tkY 34 oIdAgainLaw35 ?vv4_25_34 rfl (by kernel_rfl) (by kernel_rfl) (by kernel_rfl) (fun _ _ _ h => h) (by rfl) ?hy4_25_34 (by assumption) ?rest4_25_34
              case hy4_25_34 => (intro w hSw; unfold oIdAgainLaw35; (try dsimp only at hSw); (try go_split_ands); go_simp; all_goals with_reducible rfl)
              try simp only [oIdAgainLaw35, Act.put, sA, sB, sC]
              refine tkY 35 oIdAgainLaw36 ?vv4_25_35 rfl (by kernel_rfl) (by kernel_rfl) (by kernel_rfl) (fun _ _ _ h => h) (by rfl) ?hy4_25_35 (by assumption) ?rest4_25_35
              case hy4_25_35 => (intro w hSw; unfold oIdAgainLaw36; (try dsimp only at hSw); (try go_split_ands); go_simp; all_goals with_reducible rfl)
              try simp only [oIdAgainLaw36, Act.put, sA, sB, sC]
              refine wpAnyH_done (by kernel_rfl) ?_ _
              have HPN := Lib.hid (HPd.out.next hP4 hU4 hV4)
              clear hHeld hP4 hU4 hV4
              go_wp2_with fail
              go_roundw
              case rel => exact ⟨k + 1, g + 1, F4, delN z L, by go_num, by go_num, by omega, by omega, by omega, HGN.out, HPN.out⟩
              case measure => simp [intOf]; omega
            | false =>
              have hno : z ∉ L := of_decide_eq_false HSS.out
              have hdn := Lib.hid (del_no hno)
              by_cases hz1 : 1 ≤ z
              · have hzg : (1 : Int) ≤ (z : Int) := by omega
                by_cases hz2 : z ≤ j
                · have hzm : (z : Int) ≤ (j : Int) := by omega
                  have hin : z ∈ l.take k := by
                    apply Decidable.byContradiction
                    intro hn
                    exact hno ((hGo.out z).2 ⟨⟨hz1, hz2⟩, hn⟩)
                  have HAG := Lib.hid (decide_eq_true hin)
                  have hkc : (k : Int) ≤ (c : Int) := by omega
                  clear hno hin
                  go_wp2_with fail
                  refine wp_region_held_drew (S := (fun w' => w'.cell? ⟨b1, o1 + k, none⟩ = some (.int .u16 (z : Int)))) (by kernel_rfl) (HCX3.out) (fun hHeld => ?_)
                  obtain ⟨wd, hwd⟩ : ∃ wd, wd = w3.drew := ⟨_, rfl⟩
                  have hbd : Below w3.heap.size w3 wd := by rw [hwd]; exact (Below.refl _ _).drew
                  rw [← hwd] at hHeld ⊢
                  clear hwd hcx
                  have HPd := Lib.hid (HP3.out.bl hbd)
                  refine tkY 0 oIdAgainLaw1 ?vv5_26_0 rfl (by kernel_rfl) (by kernel_rfl) (by kernel_rfl) (fun _ _ _ h => h) (by rfl) ?hy5_26_0 (by assumption) ?rest5_26_0
                  case hy5_26_0 => (intro w hSw; unfold oIdAgainLaw1; (try dsimp only at hSw); (try go_split_ands); go_simp; all_goals with_reducible rfl)
                  try simp only [oIdAgainLaw1, Act.put, sA, sB, sC]
                  refine tkY 1 oIdAgainLaw2 ?vv5_26_1 rfl (by kernel_rfl) (by kernel_rfl) (by kernel_rfl) (fun _ _ _ h => h) (by rfl) ?hy5_26_1 (by assumption) ?rest5_26_1
                  case hy5_26_1 => (intro w hSw; unfold oIdAgainLaw2; (try dsimp only at hSw); (try go_split_ands); go_simp; all_goals with_reducible rfl)
                  try simp only [oIdAgainLaw2, Act.put, sA, sB, sC]
                  refine tkY 2 oIdAgainLaw3 ?vv5_26_2 rfl (by kernel_rfl) (by kernel_rfl) (by kernel_rfl) (fun _ _ _ h => h) (by rfl) ?hy5_26_2 (by assumption) ?rest5_26_2
                  case hy5_26_2 => (intro w hSw; unfold oIdAgainLaw3; (try dsimp only at hSw); (try go_split_ands); go_simp; all_goals with_reducible rfl)
                  try simp only [oIdAgainLaw3, Act.put, sA, sB, sC]
                  refine tkY 3 oIdAgainLaw4 ?vv5_26_3 rfl (by kernel_rfl) (by kernel_rfl) (by kernel_rfl) (fun _ _ _ h => h) (by rfl) ?hy5_26_3 (by assumption) ?rest5_26_3
                  case hy5_26_3 => (intro w hSw; unfold oIdAgainLaw4; (try dsimp only at hSw); (try go_split_ands); go_simp; all_goals with_reducible rfl)
                  try simp only [oIdAgainLaw4, Act.put, sA, sB, sC]
                  refine tkY 4 oIdAgainLaw5 ?vv5_27_4 rfl (by kernel_rfl) (by kernel_rfl) (by kernel_rfl) (fun _ _ _ h => h) (by rfl) ?hy5_27_4 (by assumption) ?rest5_27_4
                  case hy5_27_4 => (intro w hSw; unfold oIdAgainLaw5; (try dsimp only at hSw); have q9 := hSw; clear hSw; go_simp; all_goals with_reducible rfl)
                  try simp only [oIdAgainLaw5, Act.put, sA, sB, sC]
                  refine tkY 5 oIdAgainLaw6 ?vv5_28_5 rfl (by kernel_rfl) (by kernel_rfl) (by kernel_rfl) (fun _ _ _ h => h) (by rfl) ?hy5_28_5 (by assumption) ?rest5_28_5
                  case hy5_28_5 => (intro w hSw; unfold oIdAgainLaw6; (try dsimp only at hSw); (try go_split_ands); go_simp; all_goals with_reducible rfl)
                  try simp only [oIdAgainLaw6, Act.put, sA, sB, sC]
                  refine tkY 6 oIdAgainLaw7 ?vv5_28_6 rfl (by kernel_rfl) (by kernel_rfl) (by kernel_rfl) (fun _ _ _ h => h) (by rfl) ?hy5_28_6 (by assumption) ?rest5_28_6
                  case hy5_28_6 => (intro w hSw; unfold oIdAgainLaw7; (try dsimp only at hSw); (try go_split_ands); go_simp; all_goals with_reducible rfl)
                  try simp only [oIdAgainLaw7, Act.put, sA, sB, sC]
                  refine tkY 7 oIdAgainLaw8 ?vv5_29_7 rfl (by kernel_rfl) (by kernel_rfl) (by kernel_rfl) (fun _ _ _ h => h) (by rfl) ?hy5_29_7 (by assumption) ?rest5_29_7
                  case hy5_29_7 => (intro w hSw; unfold oIdAgainLaw8; (try dsimp only at hSw); (try go_split_ands); go_simp; all_goals with_reducible rfl)
                  try simp only [oIdAgainLaw8, Act.put, sA, sB, sC]
                  refine tkY 8 oIdAgainLaw9 ?vv5_29_8 rfl (by kernel_rfl) (by kernel_rfl) (by kernel_rfl) (fun _ _ _ h => h) (by rfl) ?hy5_29_8 (by assumption) ?rest5_29_8
                  case hy5_29_8 => (intro w hSw; unfold oIdAgainLaw9; (try dsimp only at hSw); (try go_split_ands); go_simp; all_goals with_reducible rfl)
                  try simp only [oIdAgainLaw9, Act.put, sA, sB, sC]
                  refine tkY 9 oIdAgainLaw10 ?vv5_29_9 rfl (by kernel_rfl) (by kernel_rfl) (by kernel_rfl) (fun _ _ _ h => h) (by rfl) ?hy5_29_9 (by assumption) ?rest5_29_9
                  case hy5_29_9 => (intro w hSw; unfold oIdAgainLaw10; (try dsimp only at hSw); (try go_split_ands); go_simp; all_goals with_reducible rfl)
                  try simp only [oIdAgainLaw10, Act.put, sA, sB, sC]
                  refine tkY 10 oIdAgainLaw11 ?vv5_30_10 rfl (by kernel_rfl) (by kernel_rfl) (by kernel_rfl) (fun _ _ _ h => h) (by rfl) ?hy5_30_10 (by assumption) ?rest5_30_10
                  case hy5_30_10 => (intro w hSw; unfold oIdAgainLaw11; (try dsimp only at hSw); have q9 := hSw; clear hSw; go_simp; all_goals with_reducible rfl)
                  try simp only [oIdAgainLaw11, Act.put, sA, sB, sC]
                  refine tkY 11 oIdAgainLaw12 ?vv5_31_11 rfl (by kernel_rfl) (by kernel_rfl) (by kernel_rfl) (fun _ _ _ h => h) (by rfl) ?hy5_31_11 (by assumption) ?rest5_31_11
                  case hy5_31_11 => (intro w hSw; unfold oIdAgainLaw12; (try dsimp only at hSw); (try go_split_ands); go_simp; all_goals with_reducible rfl)
                  try simp only [oIdAgainLaw12, Act.put, sA, sB, sC]
                  refine tkY 12 oIdAgainLaw13 ?vv5_31_12 rfl (by kernel_rfl) (by kernel_rfl) (by kernel_rfl) (fun _ _ _ h => h) (by rfl) ?hy5_31_12 (by assumption) ?rest5_31_12
                  case hy5_31_12 => (intro w hSw; unfold oIdAgainLaw13; (try dsimp only at hSw); (try go_split_ands); go_simp; all_goals with_reducible rfl)
                  try simp only [oIdAgainLaw13, Act.put, sA, sB, sC]
                  refine tkY 13 oIdAgainLaw14 ?vv5_32_13 rfl (by kernel_rfl) (by kernel_rfl) (by kernel_rfl) (fun _ _ _ h => h) (by rfl) ?hy5_32_13 (by assumption) ?rest5_32_13
                  case hy5_32_13 => (intro w hSw; unfold oIdAgainLaw14; (try dsimp only at hSw); (try go_split_ands); go_simp; all_goals with_reducible rfl)
                  try simp only [oIdAgainLaw14, Act.put, sA, sB, sC]
                  refine tkY 14 oIdAgainLaw15 ?vv5_32_14 rfl (by kernel_rfl) (by kernel_rfl) (by kernel_rfl) (fun _ _ _ h => h) (by rfl) ?hy5_32_14 (by assumption) ?rest5_32_14
                  case hy5_32_14 => (intro w hSw; unfold oIdAgainLaw15; (try dsimp only at hSw); (try go_split_ands); go_simp; all_goals with_reducible rfl)
                  try simp only [oIdAgainLaw15, Act.put, sA, sB, sC]
                  refine tkY 15 oIdAgainLaw16 ?vv5_32_15 rfl (by kernel_rfl) (by kernel_rfl) (by kernel_rfl) (fun _ _ _ h => h) (by rfl) ?hy5_32_15 (by assumption) ?rest5_32_15
                  case hy5_32_15 => (intro w hSw; unfold oIdAgainLaw16; (try dsimp only at hSw); (try go_split_ands); go_simp; all_goals with_reducible rfl)
                  try simp only [oIdAgainLaw16, Act.put, sA, sB, sC]
                  refine tkY 16 oIdAgainLaw17 ?vv5_33_16 rfl (by kernel_rfl) (by kernel_rfl) (by kernel_rfl) (fun _ _ _ h => h) (by rfl) ?hy5_33_16 (by assumption) ?rest5_33_16
                  case hy5_33_16 => (intro w hSw; unfold oIdAgainLaw17; (try dsimp only at hSw); (try go_split_ands); go_simp; all_goals with_reducible rfl)
                  try simp only [oIdAgainLaw17, Act.put, sA, sB, sC]
                  refine tkY 17 oIdAgainLaw18 ?vv5_33_17 rfl (by kernel_rfl) (by kernel_rfl) (by kernel_rfl) (fun _ _ _ h => h) (by rfl) ?hy5_33_17 (by assumption) ?rest5_33_17
                  case hy5_33_17 => (intro w hSw; unfold oIdAgainLaw18; (try dsimp only at hSw); (try go_split_ands); go_simp; all_goals with_reducible rfl)
                  try simp only [oIdAgainLaw18, Act.put, sA, sB, sC]
                  refine tkY 18 oIdAgainLaw19 ?vv5_33_18 rfl (by kernel_rfl) (by kernel_rfl) (by kernel_rfl) (fun _ _ _ h => h) (by rfl) ?hy5_33_18 (by assumption) ?rest5_33_18
                  case hy5_33_18 => (intro w hSw; unfold oIdAgainLaw19; (try dsimp only at hSw); (try go_split_ands); go_simp; all_goals with_reducible rfl)
                  try simp only [oIdAgainLaw19, Act.put, sA, sB, sC]
                  refine tkY 19 oIdAgainLaw20 ?vv5_33_19 rfl (by kernel_rfl) (by kernel_rfl) (by kernel_rfl) (fun _ _ _ h => h) (by rfl) ?hy5_33_19 (by assumption) ?rest5_33_19
                  case hy5_33_19 => (intro w hSw; unfold oIdAgainLaw20; (try dsimp only at hSw); (try go_split_ands); go_simp; all_goals with_reducible rfl)
                  try simp only [oIdAgainLaw20, Act.put, sA, sB, sC]
                  refine tkY 20 oIdAgainLaw21 ?vv5_33_20 rfl (by kernel_rfl) (by kernel_rfl) (by kernel_rfl) (fun _ _ _ h => h) (by rfl) ?hy5_33_20 (by assumption) ?rest5_33_20
                  case hy5_33_20 => (intro w hSw; unfold oIdAgainLaw21; (try dsimp only at hSw); (try go_split_ands); go_simp; all_goals with_reducible rfl)
                  try simp only [oIdAgainLaw21, Act.put, sA, sB, sC]
                  refine tkY 21 oIdAgainLaw22 ?vv5_33_21 rfl (by kernel_rfl) (by kernel_rfl) (by kernel_rfl) (fun _ _ _ h => h) (by rfl) ?hy5_33_21 (by assumption) ?rest5_33_21
                  case hy5_33_21 => (intro w hSw; unfold oIdAgainLaw22; (try dsimp only at hSw); (try go_split_ands); go_simp; all_goals with_reducible rfl)
                  try simp only [oIdAgainLaw22, Act.put, sA, sB, sC]
                  refine tkY 22 oIdAgainLaw23 ?vv5_34_22 rfl (by kernel_rfl) (by kernel_rfl) (by kernel_rfl) (fun _ _ _ h => h) (by rfl) ?hy5_34_22 (by assumption) ?rest5_34_22
                  case hy5_34_22 => (intro w hSw; unfold oIdAgainLaw23; (try dsimp only at hSw); have q9 := hSw; clear hSw; go_simp; all_goals with_reducible rfl)
                  try simp only [oIdAgainLaw23, Act.put, sA, sB, sC]
                  have HVd : Hid (Vals wd (some ⟨b1, o1, none⟩) k ((l.take k).map u16V)) := by show Vals _ _ _ _; rw [List.map_take]; exact (HS.out.below HPd.out.below).take k (by omega)
                  refine wpAnyH_ready (rs := [23]) (by kernel_rfl) (by simp) ?_
                  refine AllReadyH.cons (o := oIdAgainLaw24) rfl (fun K hK => ?_) AllReadyH.nil
                  unfold oIdAgainLaw24
                  go_simp
                  (go_at_call 22; refine (again_eq _ k _ (l.take k) z true _ HVd.out (by omega) HAG.out).mono ?_; rintro e w4 ⟨rfl, rfl⟩)
                  refine hK.out _ _ ?_ (fun hHeld => ?_)
                  · (exact hHeld)
                  clear hK K
                  try simp only [oIdAgainLaw24, Act.put, sA, sB, sC]
                  refine tkY 24 oIdAgainLaw25 ?vv5_35_24 rfl (by kernel_rfl) (by kernel_rfl) (by kernel_rfl) (fun _ _ _ h => h) (by rfl) ?hy5_35_24 (by assumption) ?rest5_35_24
                  case hy5_35_24 => (intro w hSw; unfold oIdAgainLaw25; (try dsimp only at hSw); (try go_split_ands); go_simp; all_goals with_reducible rfl)
                  try simp only [oIdAgainLaw25, Act.put, sA, sB, sC]
                  refine tkY 25 oIdAgainLaw26 ?vv5_36_25 rfl (by kernel_rfl) (by kernel_rfl) (by kernel_rfl) (fun _ _ _ h => h) (by rfl) ?hy5_36_25 (by assumption) ?rest5_36_25
                  case hy5_36_25 => (intro w hSw; unfold oIdAgainLaw26; (try dsimp only at hSw); (try go_split_ands); go_simp; all_goals with_reducible rfl)
                  try simp only [oIdAgainLaw26, Act.put, sA, sB, sC]
                  refine tkY 26 oIdAgainLaw27 ?vv5_36_26 rfl (by kernel_rfl) (by kernel_rfl) (by kernel_rfl) (fun _ _ _ h => h) (by rfl) ?hy5_36_26 (by assumption) ?rest5_36_26
                  case hy5_36_26 => (intro w hSw; unfold oIdAgainLaw27; (try dsimp only at hSw); (try go_split_ands); go_simp; all_goals with_reducible rfl)
                  try simp only [oIdAgainLaw27, Act.put, sA, sB, sC]
                  refine tkY 27 oIdAgainLaw28 ?vv5_36_27 rfl (by kernel_rfl) (by kernel_rfl) (by kernel_rfl) (fun _ _ _ h => h) (by rfl) ?hy5_36_27 (by assumption) ?rest5_36_27
                  case hy5_36_27 => (intro w hSw; unfold oIdAgainLaw28; (try dsimp only at hSw); (try go_split_ands); go_simp; all_goals with_reducible rfl)
                  try simp only [oIdAgainLaw28, Act.put, sA, sB, sC]
                  refine tkY 28 oIdAgainLaw29 ?vv5_36_28 rfl (by kernel_rfl) (by kernel_rfl) (by kernel_rfl) (fun _ _ _ h => h) (by rfl) ?hy5_36_28 (by assumption) ?rest5_36_28
                  case hy5_36_28 => (intro w hSw; unfold oIdAgainLaw29; (try dsimp only at hSw); (try go_split_ands); go_simp; all_goals with_reducible rfl)
                  try simp only [oIdAgainLaw29, Act.put, sA, sB, sC]
                  refine tkY 29 oIdAgainLaw30 ?vv5_36_29 rfl (by kernel_rfl) (by kernel_rfl) (by kernel_rfl) (fun _ _ _ h => h) (by rfl) ?hy5_36_29 (by assumption) ?rest5_36_29
                  case hy5_36_29 => (intro w hSw; unfold oIdAgainLaw30; (try dsimp only at hSw); (try go_split_ands); go_simp; all_goals with_reducible rfl)
                  try simp only [oIdAgainLaw30, Act.put, sA, sB, sC]
                  refine tkY 30 oIdAgainLaw31 ?vv5_36_30 rfl (by kernel_rfl) (by kernel_rfl) (by kernel_rfl) (fun _ _ _ h => h) (by rfl) ?hy5_36_30 (by assumption) ?rest5_36_30
                  case hy5_36_30 => (intro w hSw; unfold oIdAgainLaw31; (try dsimp only at hSw); (try go_split_ands); go_simp; all_goals with_reducible rfl)
                  try simp only [oIdAgainLaw31, Act.put, sA, sB, sC]
                  refine tkY 31 oIdAgainLaw32 ?vv5_37_31 rfl (by kernel_rfl) (by kernel_rfl) (by kernel_rfl) (fun _ _ _ h => h) (by rfl) ?hy5_37_31 (by assumption) ?rest5_37_31
                  case hy5_37_31 => (intro w hSw; unfold oIdAgainLaw32; (try dsimp only at hSw); have q9 := hSw; clear hSw; go_simp; all_goals with_reducible rfl)
                  try simp only [oIdAgainLaw32, Act.put, sA, sB, sC]
                  refine tkY 33 oIdAgainLaw33 ?vv5_38_33 rfl (by kernel_rfl) (by kernel_rfl) (by kernel_rfl) (fun _ _ _ h => h) (by rfl) ?hy5_38_33 (by assumption) ?rest5_38_33
                  case hy5_38_33 => (intro w hSw; unfold oIdAgainLaw33; (try dsimp only at hSw); (try go_split_ands); go_simp; all_goals with_reducible rfl)
                  try simp only [oIdAgainLaw33, Act.put, sA, sB, sC]
                  refine wpAnyH_ready (rs := [32]) (by kernel_rfl) (by simp) ?_
                  refine AllReadyH.cons (o := oIdAgainLaw34) rfl (fun K hK => ?_) AllReadyH.nil
                  unfold oIdAgainLaw34
                  go_simp
                  (go_at_call 12; refine (iFree_any HPd.out.pi z false hz65 HSS.out).mono ?_; rintro e w4 ⟨F4, rfl, hP4, hU4, hV4⟩)
                  refine hK.out _ _ ?_ (fun hHeld => ?_)
                  · (exact hU4.cell _ _ hHeld (fun hf => HBF.out _ hf rfl))
                  clear hK K
                  try simp only [oIdAgainLaw34, Act.put, sA, sB, sC]
                  refine tkY 34 oIdAgainLaw35 ?vv5_39_34 rfl (by kernel_rfl) (by kernel_rfl) (by kernel_rfl) (fun _ _ _ h => h) (by rfl) ?hy5_39_34 (by assumption) ?rest5_39_34
                  case hy5_39_34 => (intro w hSw; unfold oIdAgainLaw35; (try dsimp only at hSw); (try go_split_ands); go_simp; all_goals with_reducible rfl)
                  try simp only [oIdAgainLaw35, Act.put, sA, sB, sC]
                  refine tkY 35 oIdAgainLaw36 ?vv5_39_35 rfl (by kernel_rfl) (by kernel_rfl) (by kernel_rfl) (fun _ _ _ h => h) (by rfl) ?hy5_39_35 (by assumption) ?rest5_39_35
                  case hy5_39_35 => (intro w hSw; unfold oIdAgainLaw36; (try dsimp only at hSw); (try go_split_ands); go_simp; all_goals with_reducible rfl)
                  try simp only [oIdAgainLaw36, Act.put, sA, sB, sC]
                  refine wpAnyH_done (by kernel_rfl) ?_ _
                  have HPN := Lib.hid (HPd.out.next hP4 hU4 hV4)
                  clear hHeld hP4 hU4 hV4
                  go_wp2_with fail
                  go_roundw
                  case rel => exact ⟨k + 1, g, F4, delN z L, by go_num, rfl, by omega, by omega, by rw [hdn.out]; exact hLg, HGN.out, HPN.out⟩
                  case measure => simp [intOf]; omega
                · have hzm : ¬ (z : Int) ≤ (j : Int) := by omega
                  clear hno
                  go_wp2_with fail
                  refine wp_region_held_drew (S := (fun w' => w'.cell? ⟨b1, o1 + k, none⟩ = some (.int .u16 (z : Int)))) (by kernel_rfl) (HCX3.out) (fun hHeld => ?_)
                  obtain ⟨wd, hwd⟩ : ∃ wd, wd = w3.drew := ⟨_, rfl⟩
                  have hbd : Below w3.heap.size w3 wd := by rw [hwd]; exact (Below.refl _ _).drew
                  rw [← hwd] at hHeld ⊢
                  clear hwd hcx
                  have HPd := Lib.hid (HP3.out.bl hbd)
                  refine tkY 0 oIdAgainLaw1 ?vv6_40_0 rfl (by kernel_rfl) (by kernel_rfl) (by kernel_rfl) (fun _ _ _ h => h) (by rfl) ?hy6_40_0 (by assumption) ?rest6_40_0
                  case hy6_40_0 => (intro w hSw; unfold oIdAgainLaw1; (try dsimp only at hSw); (try go_split_ands); go_simp; all_goals with_reducible rfl)
                  try simp only [oIdAgainLaw1, Act.put, sA, sB, sC]
                  refine tkY 1 oIdAgainLaw2 ?vv6_40_1 rfl (by kernel_rfl) (by kernel_rfl) (by kernel_rfl) (fun _ _ _ h => h) (by rfl) ?hy6_40_1 (by assumption) ?rest6_40_1
                  case hy6_40_1 => (intro w hSw; unfold oIdAgainLaw2; (try dsimp only at hSw); (try go_split_ands); go_simp; all_goals with_reducible rfl)
                  try simp only [oIdAgainLaw2, Act.put, sA, sB, sC]
                  refine tkY 2 oIdAgainLaw3 ?vv6_40_2 rfl (by kernel_rfl) (by kernel_rfl) (by kernel_rfl) (fun _ _ _ h => h) (by rfl) ?hy6_40_2 (by assumption) ?rest6_40_2
                  case hy6_40_2 => (intro w hSw; unfold oIdAgainLaw3; (try dsimp only at hSw); (try go_split_ands); go_simp; all_goals with_reducible rfl)
                  try simp only [oIdAgainLaw3, Act.put, sA, sB, sC]
                  refine tkY 3 oIdAgainLaw4 ?vv6_40_3 rfl (by kernel_rfl) (by kernel_rfl) (by kernel_rfl) (fun _ _ _ h => h) (by rfl) ?hy6_40_3 (by assumption) ?rest6_40_3
                  case hy6_40_3 => (intro w hSw; unfold oIdAgainLaw4; (try dsimp only at hSw); (try go_split_ands); go_simp; all_goals with_reducible rfl)
                  try simp only [oIdAgainLaw4, Act.put, sA, sB, sC]
                  refine tkY 4 oIdAgainLaw5 ?vv6_41_4 rfl (by kernel_rfl) (by kernel_rfl) (by kernel_rfl) (fun _ _ _ h => h) (by rfl) ?hy6_41_4 (by assumption) ?rest6_41_4
                  case hy6_41_4 => (intro w hSw; unfold oIdAgainLaw5; (try dsimp only at hSw); have q9 := hSw; clear hSw; go_simp; all_goals with_reducible rfl)
                  try simp only [oIdAgainLaw5, Act.put, sA, sB, sC]
                  refine tkY 5 oIdAgainLaw6 ?vv6_42_5 rfl (by kernel_rfl) (by kernel_rfl) (by kernel_rfl) (fun _ _ _ h => h) (by rfl) ?hy6_42_5 (by assumption) ?rest6_42_5
                  case hy6_42_5 => (intro w hSw; unfold oIdAgainLaw6; (try dsimp only at hSw); (try go_split_ands); go_simp; all_goals with_reducible rfl)
                  try simp only [oIdAgainLaw6, Act.put, sA, sB, sC]
                  refine tkY 6 oIdAgainLaw7 ?vv6_42_6 rfl (by kernel_rfl) (by kernel_rfl) (by kernel_rfl) (fun _ _ _ h => h) (by rfl) ?hy6_42_6 (by assumption) ?rest6_42_6
                  case hy6_42_6 => (intro w hSw; unfold oIdAgainLaw7; (try dsimp only at hSw); (try go_split_ands); go_simp; all_goals with_reducible rfl)
                  try simp only [oIdAgainLaw7, Act.put, sA, sB, sC]
                  refine tkY 7 oIdAgainLaw8 ?vv6_43_7 rfl (by kernel_rfl) (by kernel_rfl) (by kernel_rfl) (fun _ _ _ h => h) (by rfl) ?hy6_43_7 (by assumption) ?rest6_43_7
                  case hy6_43_7 => (intro w hSw; unfold oIdAgainLaw8; (try dsimp only at hSw); (try go_split_ands); go_simp; all_goals with_reducible rfl)
                  try simp only [oIdAgainLaw8, Act.put, sA, sB, sC]
                  refine tkY 8 oIdAgainLaw9 ?vv6_43_8 rfl (by kernel_rfl) (by kernel_rfl) (by kernel_rfl) (fun _ _ _ h => h) (by rfl) ?hy6_43_8 (by assumption) ?rest6_43_8
                  case hy6_43_8 => (intro w hSw; unfold oIdAgainLaw9; (try dsimp only at hSw); (try go_split_ands); go_simp; all_goals with_reducible rfl)
                  try simp only [oIdAgainLaw9, Act.put, sA, sB, sC]
                  refine tkY 9 oIdAgainLaw10 ?vv6_43_9 rfl (by kernel_rfl) (by kernel_rfl) (by kernel_rfl) (fun _ _ _ h => h) (by rfl) ?hy6_43_9 (by assumption) ?rest6_43_9
                  case hy6_43_9 => (intro w hSw; unfold oIdAgainLaw10; (try dsimp only at hSw); (try go_split_ands); go_simp; all_goals with_reducible rfl)
                  try simp only [oIdAgainLaw10, Act.put, sA, sB, sC]
                  refine tkY 10 oIdAgainLaw11 ?vv6_44_10 rfl (by kernel_rfl) (by kernel_rfl) (by kernel_rfl) (fun _ _ _ h => h) (by rfl) ?hy6_44_10 (by assumption) ?rest6_44_10
                  case hy6_44_10 => (intro w hSw; unfold oIdAgainLaw11; (try dsimp only at hSw); have q9 := hSw; clear hSw; go_simp; all_goals with_reducible rfl)
                  try simp only [oIdAgainLaw11, Act.put, sA, sB, sC]
                  refine tkY 11 oIdAgainLaw12 ?vv6_45_11 rfl (by kernel_rfl) (by kernel_rfl) (by kernel_rfl) (fun _ _ _ h => h) (by rfl) ?hy6_45_11 (by assumption) ?rest6_45_11
                  case hy6_45_11 => (intro w hSw; unfold oIdAgainLaw12; (try dsimp only at hSw); (try go_split_ands); go_simp; all_goals with_reducible rfl)
                  try simp only [oIdAgainLaw12, Act.put, sA, sB, sC]
                  refine tkY 12 oIdAgainLaw13 ?vv6_45_12 rfl (by kernel_rfl) (by kernel_rfl) (by kernel_rfl) (fun _ _ _ h => h) (by rfl) ?hy6_45_12 (by assumption) ?rest6_45_12
                  case hy6_45_12 => (intro w hSw; unfold oIdAgainLaw13; (try dsimp only at hSw); (try go_split_ands); go_simp; all_goals with_reducible rfl)
                  try simp only [oIdAgainLaw13, Act.put, sA, sB, sC]
                  refine tkY 13 oIdAgainLaw14 ?vv6_46_13 rfl (by kernel_rfl) (by kernel_rfl) (by kernel_rfl) (fun _ _ _ h => h) (by rfl) ?hy6_46_13 (by assumption) ?rest6_46_13
                  case hy6_46_13 => (intro w hSw; unfold oIdAgainLaw14; (try dsimp only at hSw); (try go_split_ands); go_simp; all_goals with_reducible rfl)
                  try simp only [oIdAgainLaw14, Act.put, sA, sB, sC]
                  refine tkY 14 oIdAgainLaw15 ?vv6_46_14 rfl (by kernel_rfl) (by kernel_rfl) (by kernel_rfl) (fun _ _ _ h => h) (by rfl) ?hy6_46_14 (by assumption) ?rest6_46_14
                  case hy6_46_14 => (intro w hSw; unfold oIdAgainLaw15; (try dsimp only at hSw); (try go_split_ands); go_simp; all_goals with_reducible rfl)
                  try simp only [oIdAgainLaw15, Act.put, sA, sB, sC]
                  refine tkY 15 oIdAgainLaw16 ?vv6_46_15 rfl (by kernel_rfl) (by kernel_rfl) (by kernel_rfl) (fun _ _ _ h => h) (by rfl) ?hy6_46_15 (by assumption) ?rest6_46_15
                  case hy6_46_15 => (intro w hSw; unfold oIdAgainLaw16; (try dsimp only at hSw); (try go_split_ands); go_simp; all_goals with_reducible rfl)
                  try simp only [oIdAgainLaw16, Act.put, sA, sB, sC]
                  refine wpAnyH_take (i := 16) (oi := oIdAgainLaw17) (v := undef) rfl (by kernel_rfl) (by kernel_rfl) (by kernel_rfl) (fun _ _ _ h => h) (Or.inr ⟨by rfl, rfl⟩) (by assumption) ?rest6_47_16
                  try simp only [oIdAgainLaw17, Act.put, sA, sB, sC]
                  refine wpAnyH_take (i := 17) (oi := oIdAgainLaw18) (v := undef) rfl (by kernel_rfl) (by kernel_rfl) (by kernel_rfl) (fun _ _ _ h => h) (Or.inr ⟨by rfl, rfl⟩) (by assumption) ?rest6_47_17
                  try simp only [oIdAgainLaw18, Act.put, sA, sB, sC]
                  refine wpAnyH_take (i := 18) (oi := oIdAgainLaw19) (v := undef) rfl (by kernel_rfl) (by kernel_rfl) (by kernel_rfl) (fun _ _ _ h => h) (Or.inr ⟨by rfl, rfl⟩) (by assumption) ?rest6_47_18
                  try simp only [oIdAgainLaw19, Act.put, sA, sB, sC]
                  refine wpAnyH_take (i := 19) (oi := oIdAgainLaw20) (v := undef) rfl (by kernel_rfl) (by kernel_rfl) (by kernel_rfl) (fun _ _ _ h => h) (Or.inr ⟨by rfl, rfl⟩) (by assumption) ?rest6_47_19
                  try simp only [oIdAgainLaw20, Act.put, sA, sB, sC]
                  refine wpAnyH_take (i := 20) (oi := oIdAgainLaw21) (v := undef) rfl (by kernel_rfl) (by kernel_rfl) (by kernel_rfl) (fun _ _ _ h => h) (Or.inr ⟨by rfl, rfl⟩) (by assumption) ?rest6_47_20
                  try simp only [oIdAgainLaw21, Act.put, sA, sB, sC]
                  refine wpAnyH_take (i := 21) (oi := oIdAgainLaw22) (v := undef) rfl (by kernel_rfl) (by kernel_rfl) (by kernel_rfl) (fun _ _ _ h => h) (Or.inr ⟨by rfl, rfl⟩) (by assumption) ?rest6_47_21
                  try simp only [oIdAgainLaw22, Act.put, sA, sB, sC]
                  refine wpAnyH_take (i := 22) (oi := oIdAgainLaw23) (v := undef) rfl (by kernel_rfl) (by kernel_rfl) (by kernel_rfl) (fun _ _ _ h => h) (Or.inr ⟨by rfl, rfl⟩) (by assumption) ?rest6_47_22
                  try simp only [oIdAgainLaw23, Act.put, sA, sB, sC]
                  refine wpAnyH_take (i := 23) (oi := oIdAgainLaw24) (v := undef) rfl (by kernel_rfl) (by kernel_rfl) (by kernel_rfl) (fun _ _ _ h => h) (Or.inr ⟨by rfl, rfl⟩) (by assumption) ?rest6_47_23
                  try simp only [oIdAgainLaw24, Act.put, sA, sB, sC]
                  refine wpAnyH_take (i := 24) (oi := oIdAgainLaw25) (v := undef) rfl (by kernel_rfl) (by kernel_rfl) (by kernel_rfl) (fun _ _ _ h => h) (Or.inr ⟨by rfl, rfl⟩) (by assumption) ?rest6_47_24
                  try simp only [oIdAgainLaw25, Act.put, sA, sB, sC]
                  refine tkY 25 oIdAgainLaw26 ?vv6_48_25 rfl (by kernel_rfl) (by kernel_rfl) (by kernel_rfl) (fun _ _ _ h => h) (by rfl) ?hy6_48_25 (by assumption) ?rest6_48_25
                  case hy6_48_25 => (intro w hSw; unfold oIdAgainLaw26; (try dsimp only at hSw); (try go_split_ands); go_simp; all_goals with_reducible rfl)
                  try simp only [oIdAgainLaw26, Act.put, sA, sB, sC]
                  refine tkY 26 oIdAgainLaw27 ?vv6_48_26 rfl (by kernel_rfl) (by kernel_rfl) (by kernel_rfl) (fun _ _ _ h => h) (by rfl) ?hy6_48_26 (by assumption) ?rest6_48_26
                  case hy6_48_26 => (intro w hSw; unfold oIdAgainLaw27; (try dsimp only at hSw); (try go_split_ands); go_simp; all_goals with_reducible rfl)
                  try simp only [oIdAgainLaw27, Act.put, sA, sB, sC]
                  refine tkY 27 oIdAgainLaw28 ?vv6_48_27 rfl (by kernel_rfl) (by kernel_rfl) (by kernel_rfl) (fun _ _ _ h => h) (by rfl) ?hy6_48_27 (by assumption) ?rest6_48_27
                  case hy6_48_27 => (intro w hSw; unfold oIdAgainLaw28; (try dsimp only at hSw); (try go_split_ands); go_simp; all_goals with_reducible rfl)
                  try simp only [oIdAgainLaw28, Act.put, sA, sB, sC]
                  refine tkY 28 oIdAgainLaw29 ?vv6_48_28 rfl (by kernel_rfl) (by kernel_rfl) (by kernel_rfl) (fun _ _ _ h => h) (by rfl) ?hy6_48_28 (by assumption) ?rest6_48_28
                  case hy6_48_28 => (intro w hSw; unfold oIdAgainLaw29; (try dsimp only at hSw); (try go_split_ands); go_simp; all_goals with_reducible rfl)
                  try simp only [oIdAgainLaw29, Act.put, sA, sB, sC]
                  refine tkY 29 oIdAgainLaw30 ?vv6_48_29 rfl (by kernel_rfl) (by kernel_rfl) (by kernel_rfl) (fun _ _ _ h => h) (by rfl) ?hy6_48_29 (by assumption) ?rest6_48_29
                  case hy6_48_29 => (intro w hSw; unfold oIdAgainLaw30; (try dsimp only at hSw); (try go_split_ands); go_simp; all_goals with_reducible rfl)
                  try simp only [oIdAgainLaw30, Act.put, sA, sB, sC]
                  refine tkY 30 oIdAgainLaw31 ?vv6_48_30 rfl (by kernel_rfl) (by kernel_rfl) (by kernel_rfl) (fun _ _ _ h => h) (by rfl) ?hy6_48_30 (by assumption) ?rest6_48_30
                  case hy6_48_30 => (intro w hSw; unfold oIdAgainLaw31; (try dsimp only at hSw); (try go_split_ands); go_simp; all_goals with_reducible rfl)
                  try simp only [oIdAgainLaw31, Act.put, sA, sB, sC]
                  refine tkY 31 oIdAgainLaw32 ?vv6_49_31 rfl (by kernel_rfl) (by kernel_rfl) (by kernel_rfl) (fun _ _ _ h => h) (by rfl) ?hy6_49_31 (by assumption) ?rest6_49_31
                  case hy6_49_31 => (intro w hSw; unfold oIdAgainLaw32; (try dsimp only at hSw); have q9 := hSw; clear hSw; go_simp; all_goals with_reducible rfl)
                  try simp only [oIdAgainLaw32, Act.put, sA, sB, sC]
                  refine tkY 33 oIdAgainLaw33 ?vv6_50_33 rfl (by kernel_rfl) (by kernel_rfl) (by kernel_rfl) (fun _ _ _ h => h) (by rfl) ?hy6_50_33 (by assumption) ?rest6_50_33
                  case hy6_50_33 => (intro w hSw; unfold oIdAgainLaw33; (try dsimp only at hSw); (try go_split_ands); go_simp; all_goals with_reducible rfl)
                  try simp only [oIdAgainLaw33, Act.put, sA, sB, sC]
                  refine wpAnyH_ready (rs := [32]) (by kernel_rfl) (by simp) ?_
                  refine AllReadyH.cons (o := oIdAgainLaw34) rfl (fun K hK => ?_) AllReadyH.nil
                  unfold oIdAgainLaw34
                  go_simp
                  (go_at_call 12; refine (iFree_any HPd.out.pi z false hz65 HSS.out).mono ?_; rintro e w4 ⟨F4, rfl, hP4, hU4, hV4⟩)
                  refine hK.out _ _ ?_ (fun hHeld => ?_)
                  · (exact hU4.cell _ _ hHeld (fun hf => HBF.out _ hf rfl))
                  clear hK K
                  try simp only [oIdAgainLaw34, Act.put, sA, sB, sC]
                  refine tkY 34 oIdAgainLaw35 ?vv6_51_34 rfl (by kernel_rfl) (by kernel_rfl) (by kernel_rfl) (fun _ _ _ h => h) (by rfl) ?hy6_51_34 (by assumption) ?rest6_51_34
                  case hy6_51_34 => (intro w hSw; unfold oIdAgainLaw35; (try dsimp only at hSw); (try go_split_ands); go_simp; all_goals with_reducible rfl)
                  try simp only [oIdAgainLaw35, Act.put, sA, sB, sC]
                  refine tkY 35 oIdAgainLaw36 ?vv6_51_35 rfl (by kernel_rfl) (by kernel_rfl) (by kernel_rfl) (fun _ _ _ h => h) (by rfl) ?hy6_51_35 (by assumption) ?rest6_51_35
                  case hy6_51_35 => (intro w hSw; unfold oIdAgainLaw36; (try dsimp only at hSw); (try go_split_ands); go_simp; all_goals with_reducible rfl)
                  try simp only [oIdAgainLaw36, Act.put, sA, sB, sC]
                  refine wpAnyH_done (by kernel_rfl) ?_ _
                  have HPN := Lib.hid (HPd.out.next hP4 hU4 hV4)
                  clear hHeld hP4 hU4 hV4
                  go_wp2_with fail
                  go_roundw
                  case rel => exact ⟨k + 1, g, F4, delN z L, by go_num, rfl, by omega, by omega, by rw [hdn.out]; exact hLg, HGN.out, HPN.out⟩
                  case measure => simp [intOf]; omega
              · have hzg : ¬ (1 : Int) ≤ (z : Int) := by omega
                have hzd : decide ((1 : Int) ≤ (z : Int)) = false := decide_eq_false hzg
                have hzd2 : decide ((z : Int) ≥ 1) = false := decide_eq_false hzg
                clear hno
                go_wp2_with fail
                refine wp_region_held_drew (S := (fun w' => w'.cell? ⟨b1, o1 + k, none⟩ = some (.int .u16 (z : Int)))) (by kernel_rfl) (HCX3.out) (fun hHeld => ?_)
                obtain ⟨wd, hwd⟩ : ∃ wd, wd = w3.drew := ⟨_, rfl⟩
                have hbd : Below w3.heap.size w3 wd := by rw [hwd]; exact (Below.refl _ _).drew
                rw [← hwd] at hHeld ⊢
                clear hwd hcx
                have HPd := Lib.hid (HP3.out.bl hbd)
                refine tkY 0 oIdAgainLaw1 ?vv7_52_0 rfl (by kernel_rfl) (by kernel_rfl) (by kernel_rfl) (fun _ _ _ h => h) (by rfl) ?hy7_52_0 (by assumption) ?rest7_52_0
                case hy7_52_0 => (intro w hSw; unfold oIdAgainLaw1; (try dsimp only at hSw); (try go_split_ands); go_simp; all_goals with_reducible rfl)
                try simp only [oIdAgainLaw1, Act.put, sA, sB, sC]
                refine tkY 1 oIdAgainLaw2 ?vv7_52_1 rfl (by kernel_rfl) (by kernel_rfl) (by kernel_rfl) (fun _ _ _ h => h) (by rfl) ?hy7_52_1 (by assumption) ?rest7_52_1
                case hy7_52_1 => (intro w hSw; unfold oIdAgainLaw2; (try dsimp only at hSw); (try go_split_ands); go_simp; all_goals with_reducible rfl)
                try simp only [oIdAgainLaw2, Act.put, sA, sB, sC]
                refine tkY 2 oIdAgainLaw3 ?vv7_52_2 rfl (by kernel_rfl) (by kernel_rfl) (by kernel_rfl) (fun _ _ _ h => h) (by rfl) ?hy7_52_2 (by assumption) ?rest7_52_2
                case hy7_52_2 => (intro w hSw; unfold oIdAgainLaw3; (try dsimp only at hSw); (try go_split_ands); go_simp; all_goals with_reducible rfl)
                try simp only [oIdAgainLaw3, Act.put, sA, sB, sC]
                refine tkY 3 oIdAgainLaw4 ?vv7_52_3 rfl (by kernel_rfl) (by kernel_rfl) (by kernel_rfl) (fun _ _ _ h => h) (by rfl) ?hy7_52_3 (by assumption) ?rest7_52_3
                case hy7_52_3 => (intro w hSw; unfold oIdAgainLaw4; (try dsimp only at hSw); (try go_split_ands); go_simp; all_goals with_reducible rfl)
                try simp only [oIdAgainLaw4, Act.put, sA, sB, sC]
                refine tkY 4 oIdAgainLaw5 ?vv7_53_4 rfl (by kernel_rfl) (by kernel_rfl) (by kernel_rfl) (fun _ _ _ h => h) (by rfl) ?hy7_53_4 (by assumption) ?rest7_53_4
                case hy7_53_4 => (intro w hSw; unfold oIdAgainLaw5; (try dsimp only at hSw); have q9 := hSw; clear hSw; go_simp; all_goals with_reducible rfl)
                try simp only [oIdAgainLaw5, Act.put, sA, sB, sC]
                refine tkY 5 oIdAgainLaw6 ?vv7_54_5 rfl (by kernel_rfl) (by kernel_rfl) (by kernel_rfl) (fun _ _ _ h => h) (by rfl) ?hy7_54_5 (by assumption) ?rest7_54_5
                case hy7_54_5 => (intro w hSw; unfold oIdAgainLaw6; (try dsimp only at hSw); (try go_split_ands); go_simp; all_goals with_reducible rfl)
                try simp only [oIdAgainLaw6, Act.put, sA, sB, sC]
                refine tkY 6 oIdAgainLaw7 ?vv7_54_6 rfl (by kernel_rfl) (by kernel_rfl) (by kernel_rfl) (fun _ _ _ h => h) (by rfl) ?hy7_54_6 (by assumption) ?rest7_54_6
                case hy7_54_6 => (intro w hSw; unfold oIdAgainLaw7; (try dsimp only at hSw); (try go_split_ands); go_simp; all_goals with_reducible rfl)
                try simp only [oIdAgainLaw7, Act.put, sA, sB, sC]
                refine wpAnyH_take (i := 7) (oi := oIdAgainLaw8) (v := undef) rfl (by kernel_rfl) (by kernel_rfl) (by kernel_rfl) (fun _ _ _ h => h) (Or.inr ⟨by rfl, rfl⟩) (by assumption) ?rest7_55_7
                try simp only [oIdAgainLaw8, Act.put, sA, sB, sC]
                refine wpAnyH_take (i := 8) (oi := oIdAgainLaw9) (v := undef) rfl (by kernel_rfl) (by kernel_rfl) (by kernel_rfl) (fun _ _ _ h => h) (Or.inr ⟨by rfl, rfl⟩) (by assumption) ?rest7_55_8
                try simp only [oIdAgainLaw9, Act.put, sA, sB, sC]
                refine wpAnyH_take (i := 9) (oi := oIdAgainLaw10) (v := undef) rfl (by kernel_rfl) (by kernel_rfl) (by kernel_rfl) (fun _ _ _ h => h) (Or.inr ⟨by rfl, rfl⟩) (by assumption) ?rest7_55_9
                try simp only [oIdAgainLaw10, Act.put, sA, sB, sC]
                refine wpAnyH_take (i := 10) (oi := oIdAgainLaw11) (v := undef) rfl (by kernel_rfl) (by kernel_rfl) (by kernel_rfl) (fun _ _ _ h => h) (Or.inr ⟨by rfl, rfl⟩) (by assumption) ?rest7_55_10
                try simp only [oIdAgainLaw11, Act.put, sA, sB, sC]
                refine wpAnyH_take (i := 11) (oi := oIdAgainLaw12) (v := undef) rfl (by kernel_rfl) (by kernel_rfl) (by kernel_rfl) (fun _ _ _ h => h) (Or.inr ⟨by rfl, rfl⟩) (by assumption) ?rest7_55_11
                try simp only [oIdAgainLaw12, Act.put, sA, sB, sC]
                refine wpAnyH_take (i := 12) (oi := oIdAgainLaw13) (v := undef) rfl (by kernel_rfl) (by kernel_rfl) (by kernel_rfl) (fun _ _ _ h => h) (Or.inr ⟨by rfl, rfl⟩) (by assumption) ?rest7_55_12
                try simp only [oIdAgainLaw13, Act.put, sA, sB, sC]
                refine tkY 13 oIdAgainLaw14 ?vv7_56_13 rfl (by kernel_rfl) (by kernel_rfl) (by kernel_rfl) (fun _ _ _ h => h) (by rfl) ?hy7_56_13 (by assumption) ?rest7_56_13
                case hy7_56_13 => (intro w hSw; unfold oIdAgainLaw14; (try dsimp only at hSw); (try go_split_ands); go_simp; all_goals with_reducible rfl)
                try simp only [oIdAgainLaw14, Act.put, sA, sB, sC]
                refine tkY 14 oIdAgainLaw15 ?vv7_56_14 rfl (by kernel_rfl) (by kernel_rfl) (by kernel_rfl) (fun _ _ _ h => h) (by rfl) ?hy7_56_14 (by assumption) ?rest7_56_14
                case hy7_56_14 => (intro w hSw; unfold oIdAgainLaw15; (try dsimp only at hSw); (try go_split_ands); go_simp; all_goals with_reducible rfl)
                try simp only [oIdAgainLaw15, Act.put, sA, sB, sC]
                refine tkY 15 oIdAgainLaw16 ?vv7_56_15 rfl (by kernel_rfl) (by kernel_rfl) (by kernel_rfl) (fun _ _ _ h => h) (by rfl) ?hy7_56_15 (by assumption) ?rest7_56_15
                case hy7_56_15 => (intro w hSw; unfold oIdAgainLaw16; (try dsimp only at hSw); (try go_split_ands); go_simp; all_goals with_reducible rfl)
                try simp only [oIdAgainLaw16, Act.put, sA, sB, sC]
                refine wpAnyH_take (i := 16) (oi := oIdAgainLaw17) (v := undef) rfl (by kernel_rfl) (by kernel_rfl) (by kernel_rfl) (fun _ _ _ h => h) (Or.inr ⟨by rfl, rfl⟩) (by assumption) ?rest7_57_16
                try simp only [oIdAgainLaw17, Act.put, sA, sB, sC]
                refine wpAnyH_take (i := 17) (oi := oIdAgainLaw18) (v := undef) rfl (by kernel_rfl) (by kernel_rfl) (by kernel_rfl) (fun _ _ _ h => h) (Or.inr ⟨by rfl, rfl⟩) (by assumption) ?rest7_57_17
                try simp only [oIdAgainLaw18, Act.put, sA, sB, sC]
                refine wpAnyH_take (i := 18) (oi := oIdAgainLaw19) (v := undef) rfl (by kernel_rfl) (by kernel_rfl) (by kernel_rfl) (fun _ _ _ h => h) (Or.inr ⟨by rfl, rfl⟩) (by assumption) ?rest7_57_18
                try simp only [oIdAgainLaw19, Act.put, sA, sB, sC]
                refine wpAnyH_take (i := 19) (oi := oIdAgainLaw20) (v := undef) rfl (by kernel_rfl) (by kernel_rfl) (by kernel_rfl) (fun _ _ _ h => h) (Or.inr ⟨by rfl, rfl⟩) (by assumption) ?rest7_57_19
                try simp only [oIdAgainLaw20, Act.put, sA, sB, sC]
                refine wpAnyH_take (i := 20) (oi := oIdAgainLaw21) (v := undef) rfl (by kernel_rfl) (by kernel_rfl) (by kernel_rfl) (fun _ _ _ h => h) (Or.inr ⟨by rfl, rfl⟩) (by assumption) ?rest7_57_20
                try simp only [oIdAgainLaw21, Act.put, sA, sB, sC]
                refine wpAnyH_take (i := 21) (oi := oIdAgainLaw22) (v := undef) rfl (by kernel_rfl) (by kernel_rfl) (by kernel_rfl) (fun _ _ _ h => h) (Or.inr ⟨by rfl, rfl⟩) (by assumption) ?rest7_57_21
                try simp only [oIdAgainLaw22, Act.put, sA, sB, sC]
                refine wpAnyH_take (i := 22) (oi := oIdAgainLaw23) (v := undef) rfl (by kernel_rfl) (by kernel_rfl) (by kernel_rfl) (fun _ _ _ h => h) (Or.inr ⟨by rfl, rfl⟩) (by assumption) ?rest7_57_22
                try simp only [oIdAgainLaw23, Act.put, sA, sB, sC]
                refine wpAnyH_take (i := 23) (oi := oIdAgainLaw24) (v := undef) rfl (by kernel_rfl) (by kernel_rfl) (by kernel_rfl) (fun _ _ _ h => h) (Or.inr ⟨by rfl, rfl⟩) (by assumption) ?rest7_57_23
                try simp only [oIdAgainLaw24, Act.put, sA, sB, sC]
                refine wpAnyH_take (i := 24) (oi := oIdAgainLaw25) (v := undef) rfl (by kernel_rfl) (by kernel_rfl) (by kernel_rfl) (fun _ _ _ h => h) (Or.inr ⟨by rfl, rfl⟩) (by assumption) ?rest7_57_24
                try simp only [oIdAgainLaw25, Act.put, sA, sB, sC]
                refine tkY 25 oIdAgainLaw26 ?vv7_58_25 rfl (by kernel_rfl) (by kernel_rfl) (by kernel_rfl) (fun _ _ _ h => h) (by rfl) ?hy7_58_25 (by assumption) ?rest7_58_25
                case hy7_58_25 => (intro w hSw; unfold oIdAgainLaw26; (try dsimp only at hSw); (try go_split_ands); go_simp; all_goals with_reducible rfl)
                try simp only [oIdAgainLaw26, Act.put, sA, sB, sC]
                refine tkY 26 oIdAgainLaw27 ?vv7_58_26 rfl (by kernel_rfl) (by kernel_rfl) (by kernel_rfl) (fun _ _ _ h => h) (by rfl) ?hy7_58_26 (by assumption) ?rest7_58_26
                case hy7_58_26 => (intro w hSw; unfold oIdAgainLaw27; (try dsimp only at hSw); (try go_split_ands); go_simp; all_goals with_reducible rfl)
                try simp only [oIdAgainLaw27, Act.put, sA, sB, sC]
                refine tkY 27 oIdAgainLaw28 ?vv7_58_27 rfl (by kernel_rfl) (by kernel_rfl) (by kernel_rfl) (fun _ _ _ h => h) (by rfl) ?hy7_58_27 (by assumption) ?rest7_58_27
                case hy7_58_27 => (intro w hSw; unfold oIdAgainLaw28; (try dsimp only at hSw); (try go_split_ands); go_simp; all_goals with_reducible rfl)
                try simp only [oIdAgainLaw28, Act.put, sA, sB, sC]
                refine tkY 28 oIdAgainLaw29 ?vv7_58_28 rfl (by kernel_rfl) (by kernel_rfl) (by kernel_rfl) (fun _ _ _ h => h) (by rfl) ?hy7_58_28 (by assumption) ?rest7_58_28
                case hy7_58_28 => (intro w hSw; unfold oIdAgainLaw29; (try dsimp only at hSw); (try go_split_ands); go_simp; all_goals with_reducible rfl)
                try simp only [oIdAgainLaw29, Act.put, sA, sB, sC]
                refine tkY 29 oIdAgainLaw30 ?vv7_58_29 rfl (by kernel_rfl) (by kernel_rfl) (by kernel_rfl) (fun _ _ _ h => h) (by rfl) ?hy7_58_29 (by assumption) ?rest7_58_29
                case hy7_58_29 => (intro w hSw; unfold oIdAgainLaw30; (try dsimp only at hSw); (try go_split_ands); go_simp; all_goals with_reducible rfl)
                try simp only [oIdAgainLaw30, Act.put, sA, sB, sC]
                refine tkY 30 oIdAgainLaw31 ?vv7_58_30 rfl (by kernel_rfl) (by kernel_rfl) (by kernel_rfl) (fun _ _ _ h => h) (by rfl) ?hy7_58_30 (by assumption) ?rest7_58_30
                case hy7_58_30 => (intro w hSw; unfold oIdAgainLaw31; (try dsimp only at hSw); (try go_split_ands); go_simp; all_goals with_reducible rfl)
                try simp only [oIdAgainLaw31, Act.put, sA, sB, sC]
                refine tkY 31 oIdAgainLaw32 ?vv7_59_31 rfl (by kernel_rfl) (by kernel_rfl) (by kernel_rfl) (fun _ _ _ h => h) (by rfl) ?hy7_59_31 (by assumption) ?rest7_59_31
                case hy7_59_31 => (intro w hSw; unfold oIdAgainLaw32; (try dsimp only at hSw); have q9 := hSw; clear hSw; go_simp; all_goals with_reducible rfl)
                try simp only [oIdAgainLaw32, Act.put, sA, sB, sC]
                refine tkY 33 oIdAgainLaw33 ?vv7_60_33 rfl (by kernel_rfl) (by kernel_rfl) (by kernel_rfl) (fun _ _ _ h => h) (by rfl) ?hy7_60_33 (by assumption) ?rest7_60_33
                case hy7_60_33 => (intro w hSw; unfold oIdAgainLaw33; (try dsimp only at hSw); (try go_split_ands); go_simp; all_goals with_reducible rfl)
                try simp only [oIdAgainLaw33, Act.put, sA, sB, sC]
                refine wpAnyH_ready (rs := [32]) (by kernel_rfl) (by simp) ?_
                refine AllReadyH.cons (o := oIdAgainLaw34) rfl (fun K hK => ?_) AllReadyH.nil
                unfold oIdAgainLaw34
                go_simp
                (go_at_call 12; refine (iFree_any HPd.out.pi z false hz65 HSS.out).mono ?_; rintro e w4 ⟨F4, rfl, hP4, hU4, hV4⟩)
                refine hK.out _ _ ?_ (fun hHeld => ?_)
                · (exact hU4.cell _ _ hHeld (fun hf => HBF.out _ hf rfl))
                clear hK K
                try simp only [oIdAgainLaw34, Act.put, sA, sB, sC]
                refine tkY 34 oIdAgainLaw35 ?vv7_61_34 rfl (by kernel_rfl) (by kernel_rfl) (by kernel_rfl) (fun _ _ _ h => h) (by rfl) ?hy7_61_34 (by assumption) ?rest7_61_34
                case hy7_61_34 => (intro w hSw; unfold oIdAgainLaw35; (try dsimp only at hSw); (try go_split_ands); go_simp; all_goals with_reducible rfl)
                try simp only [oIdAgainLaw35, Act.put, sA, sB, sC]
                refine tkY 35 oIdAgainLaw36 ?vv7_61_35 rfl (by kernel_rfl) (by kernel_rfl) (by kernel_rfl) (fun _ _ _ h => h) (by rfl) ?hy7_61_35 (by assumption) ?rest7_61_35
                case hy7_61_35 => (intro w hSw; unfold oIdAgainLaw36; (try dsimp only at hSw); (try go_split_ands); go_simp; all_goals with_reducible rfl)
                try simp only [oIdAgainLaw36, Act.put, sA, sB, sC]
                refine wpAnyH_done (by kernel_rfl) ?_ _
                have HPN := Lib.hid (HPd.out.next hP4 hU4 hV4)
                clear hHeld hP4 hU4 hV4
                go_wp2_with fail
                go_roundw
                case rel => exact ⟨k + 1, g, F4, delN z L, by go_num, rfl, by omega, by omega, by rw [hdn.out]; exact hLg, HGN.out, HPN.out⟩
                case measure => simp [intOf]; omega
          · obtain rfl : k = n := by omega
            have hGo2 : Gone j l L := by have := hGo.out; rwa [List.take_of_length_le (by rw [HNL.out]; omega)] at this
            have HBk := Lib.hid hGo2.back
            have hL9 : L.length + g = j + 0 := by omega
            have hlgj : L.length ≤ j := by omega
            obtain ⟨q0, hq0⟩ : ∃ q0, q0 = L.length := ⟨_, rfl⟩
            have hqg : q0 + g = j := by omega
            have HQ := Lib.hid hq0
            clear hGo2 hL9 hGo hlt hq0 hLg hlgj
            go_wp2_with fail
            go_loopw [10, 11] (fun la i wr => ∃ (k2 last : Nat) (F : Nat → Prop) (L : List Nat), i = .int .i64 k2 ∧ la = .int .u16 last ∧ k2 ≤ g ∧ last ≤ j ∧ L.length = q0 + k2 ∧ Hid (Back j last l L) ∧ OwnP w.heap.size w wr t F L) (fun _ i _ => g - (intOf i).toNat)
            case atStart => exact ⟨0, 0, F, L, rfl, rfl, by omega, by omega, by rw [HQ.out]; omega, HBk.out, HP.out⟩
            case round =>
              clear HBk HP HQ
              obtain ⟨k2, last, F, L, rfl, rfl, hk2, hla, hLn, hBk, hP⟩ := hrel
              have HP := Lib.hid hP
              by_cases hlt2 : k2 < g
              · obtain ⟨id, hid⟩ := lst_ex L hP.pi.srt (fun i hi => (hP.pi.pos i hi).1)
                have hidm : id ≤ j := lst_le (m := j) (by omega) hid
                obtain ⟨hb1, hb2, hb3⟩ := hBk.out.least hla hid hidm
                have hl : L.length < 65535 := by omega
                have HID := Lib.hid hid
                have HB3 := Lib.hid hb3
                have HAG := Lib.hid (decide_eq_true hb2)
                have hI1 : ¬ (id : Int) ≤ (last : Int) := by omega
                have hI2 : ¬ (id : Int) > (j : Int) := by omega
                have hkI : (k2 : Int) < (g : Int) := by omega
                have hlen2 := ins_len' id L
                clear hid hb2 hb3 hP
                go_wp2_with fail
                refine (iTake HP.out.pi (HG.out.below HP.out.below) id _ hl HID.out rfl).mono ?_
                intro e w5 hK
                obtain ⟨F5, rfl, hP5⟩ := HP.out.tk hK
                have HP5 := Lib.hid hP5
                clear hK hP5
                go_wp2_with fail
                refine (again_eq A k c l id true _ (HS.out.below HP5.out.below) (by omega) HAG.out).mono ?_
                rintro e w6 ⟨rfl, rfl⟩
                go_wp2_with fail
                go_roundw
                case rel => exact ⟨k2 + 1, id, F5, insO ltN id L, by go_num, rfl, by omega, hidm, by omega, HB3.out, HP5.out⟩
                case measure => simp [intOf]; omega
              · obtain rfl : k2 = g := by omega
                have hLj : L.length = j := by omega
                have hfl := lst_full hP.pi.srt (fun i hi => ((hBk.out i).1 hi).1) hLj
                have HFL := Lib.hid hfl
                have hl : L.length < 65535 := by omega
                have HIL := Lib.hid (iLen hP.pi)
                rw [hLj] at HIL
                have hjj : ((j : Int) == (j : Int)) = true := by simp
                clear hfl hP hBk
                go_wp2_with fail
                refine HIL.out.mono ?_
                rintro e w7 ⟨rfl, rfl⟩
                go_wp2_with fail
                refine (takes_any HP.out.pi (HG.out.below HP.out.below) (j + 1) _ hl HFL.out rfl).mono ?_
                rintro e w8 hK
                obtain ⟨F8, rfl, hP8⟩ := HP.out.fr hK
                have hbw := hP8.below
                clear hK hP8
                go_wp2_with fail
                refine (awake_any _ (HG.out.below hbw)).mono ?_
                rintro e w9 ⟨rfl, hb9⟩
                have hb10 := below_more hbw hb9
                go_wp2_with fail
                go_ret
                exact ⟨rfl, hb10⟩
  · by_cases hm3 : m ≤ 300
    · have hmI : ¬ (m : Int) > 300 := by omega
      have hnI : (n : Int) > 100 := by omega
      go_enter Tryd.func7, Tryd.ntmps7
      go_wp2_with fail
      refine (awake_any _ HG.out).mono ?_
      rintro e w6 ⟨rfl, hb6⟩
      go_wp2_with fail
      go_ret
      exact ⟨rfl, hb6⟩
    · have hmI : (m : Int) > 300 := by omega
      go_enter Tryd.func7, Tryd.ntmps7
      go_wp2_with fail
      refine (awake_any _ HG.out).mono ?_
      rintro e w6 ⟨rfl, hb6⟩
      go_wp2_with fail
      go_ret
      exact ⟨rfl, hb6⟩
set_option maxRecDepth 100000 in
theorem lifted (os : Os) (started : os.Started) (H : Type) (enc : TypeId × Value → H) :
    ReturnsInHanded {} Tryd.checked os 7 .any (fun w args => (Rows.idsAgainSpec.pre enc Tryd.prog Tryd.f7 [] false w args ∧ laidMetH Tryd.prog laidL w) ∧ sizedMet enc Tryd.prog Tryd.f7 (OpenSpec.ofChange Rows.idsAgainSpec) false w args)
      (Rows.idsAgainSpec.post enc Tryd.prog Tryd.f7 false true false false) := by
  refine handed_laidT (C := Tryd.checked) (X := fun w _ => laidMetH Tryd.prog laidL w) own_none started (by kernel_rfl) Tryd.func7 (laidT_witness os Rows.idsAgainSpec #[.int .u16 0, .slice none 0 0] (by kernel_rfl) (by kernel_rfl) (by kernel_rfl)) ?_
  intro W base args ds gs before hval0 hW hlm
  have hval : ∀ (j : Nat) t v, Tryd.f7.params[j]? = some t → args[j]? = some v → Value.okWide Tryd.prog W .any base t v := hval0
  have hWk := hW
  obtain ⟨p, q, hA0, hV, hbef, _, _⟩ := hWk
  have hA : DataW.TrodAll enc Tryd.prog W 0 (fun _ => true) true Tryd.f7.params.toList args.toList ds p := hA0
  obtain ⟨rfl, rfl⟩ := trodVars_none hV
  rw [Tryd.params7] at hA hval
  obtain ⟨v0, vs0, d0, ds0, p0, q0, hargs, rfl, hp0, h0, r0⟩ := trodAll_cons hA
  obtain ⟨v1, vs1, d1, ds1, p1, q1, rfl, rfl, hp1, h1, r1⟩ := trodAll_cons r0
  obtain ⟨rfl, rfl, hpn⟩ := trodAll_nil r1
  obtain rfl : args = #[v0, v1] := by cases args; simp_all
  obtain ⟨a0, rfl, rfl, hx0, w0⟩ := open_int Tryd.underlying25 (hval 0 25 v0 rfl rfl) h0
  obtain ⟨A1, n1, c1, l1, rfl, hs1, _, hc1, hn1, hi1⟩ := open_U16s Tryd.underlying30 Tryd.underlying25 cells_u16 (hval 1 30 v1 rfl rfl) h1
  refine (walk W (glot_of hlm) a0 w0 A1 n1 c1 l1 hs1 hc1 (by unfold maxLen at hn1; omega) hi1).mono fun e W' ⟨he, hg⟩ => ?_
  subst he
  exact ⟨_, rfl, law_post laid_out (by kernel_rfl) rfl (by kernel_rfl) Tryd.underlying4 hW rfl hg⟩

theorem over : Rows.idsAgainRow.holds Tryd.pinned (OpenSpec.ofChange Rows.idsAgainSpec) :=
  OpenClaim.holds_of_wide 7 Tryd.f7 rfl rfl rfl rfl rfl rfl rfl ⟨rfl, rfl, rfl, rfl, rfl⟩ rfl rfl rfl rfl rfl (by kernel_rfl) Tryd.func7 (by kernel_rfl)
    (of_decide_eq_true (by kernel_rfl)) (by unfold Func.isWrapper; first | (rw [if_pos (by decide +kernel)]; kernel_rfl) | (rw [if_neg (by decide +kernel)]; exact ⟨rfl, rfl⟩))
    (fun os started H enc _ => lifted os started H enc)

/-- THE STATEMENT: the card. -/
theorem proved : Rows.IdsAgainCardSaid :=
  Claim7.holds_tied_plain_at .later [] [.data] true Rows.idsAgainCard.stood.harness false over (fun _ h => by cases h) (by kernel_rfl) (fun _ h => by cases h) idsAgain_row_tie rfl ⟨rfl, rfl⟩ (by kernel_rfl) rfl
    (fun f fn hf hfn => by
      obtain rfl : f = 7 := Option.some.inj ((show Tryd.prog.funcNamed Rows.idsAgainRow.func = some 7 by kernel_rfl).symm.trans hf) |>.symm
      obtain rfl : fn = Tryd.f7 := (Option.some.inj (Tryd.func7.symm.trans hfn)).symm
      exact ⟨by kernel_rfl, fun j t ht => by
        have hm : t ∈ Tryd.f7.params.toList := by simpa using Array.mem_of_getElem? ht
        have hall : (Tryd.f7.params.toList.all fun u => !Tryd.prog.wantsStandIn u) = true := by kernel_rfl
        exact (show Tryd.prog.wantsStandIn t = false by simpa using List.all_eq_true.1 hall t hm)⟩)
    (by kernel_rfl)
end lawIdsAgain
end Go.Proofs.YtckgglgecpmikaaDoor
