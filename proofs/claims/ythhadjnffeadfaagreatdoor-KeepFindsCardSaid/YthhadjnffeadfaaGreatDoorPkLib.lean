/-
  What packet asks of the library: ContainsAny at "+#", Split at "/".
-/
import Derived.Test.YthhadjnffeadfaaGreatDoorPkFacts
import Derived.Test.YthhadjnffeadfaaGreatDoorTextWalks
import Derived.Laws.RangeAny
import Derived.Deep.Cut
set_option linter.unusedSimpArgs false
set_option linter.unusedVariables false
namespace Go.Proofs.YthhadjnffeadfaaGreatDoor
section
open Go.RowKit
def oPkLib1 : Oper := ({ dst := some 27, op := Go.Op.move (Go.Operand.tmp 0), type := 9, pos := "strings.go:133", after := #[], guard := none } : Oper)
def oPkLib2 : Oper := ({ dst := some 28, op := Go.Op.move (Go.Operand.tmp 9), type := 3, pos := "strings.go:133", after := #[], guard := none } : Oper)
def oPkLib3 : Oper := ({ dst := some 29, op := Go.Op.index 9 (Go.Operand.tmp 27) (Go.Operand.tmp 28), type := 5, pos := "strings.go:133", after := #[{ on := 0, ground := Go.Ground.data }, { on := 1, ground := Go.Ground.data }], guard := none } : Oper)
def oPkLib4 : Oper := ({ dst := some 30, op := Go.Op.move (Go.Operand.tmp 7), type := 9, pos := "strings.go:133", after := #[], guard := none } : Oper)
def oPkLib5 : Oper := ({ dst := some 31, op := Go.Op.move (Go.Operand.tmp 8), type := 3, pos := "strings.go:133", after := #[], guard := none } : Oper)
def oPkLib6 : Oper := ({ dst := some 32, op := Go.Op.index 9 (Go.Operand.tmp 30) (Go.Operand.tmp 31), type := 5, pos := "strings.go:133", after := #[{ on := 3, ground := Go.Ground.data }, { on := 4, ground := Go.Ground.data }], guard := none } : Oper)
def oPkLib7 : Oper := ({ dst := some 33, op := Go.Op.binOp Go.BinOp.neq 5 (Go.Operand.tmp 29) (Go.Operand.tmp 32) 5, type := 4, pos := "strings.go:133", after := #[{ on := 2, ground := Go.Ground.data }, { on := 5, ground := Go.Ground.data }], guard := none } : Oper)
def oPkLib8 : Oper := ({ dst := some 34, op := Go.Op.move (Go.Operand.tmp 0), type := 9, pos := "strings.go:134", after := #[], guard := none } : Oper)
def oPkLib9 : Oper := ({ dst := some 35, op := Go.Op.move (Go.Operand.tmp 9), type := 3, pos := "strings.go:134", after := #[], guard := none } : Oper)
def oPkLib10 : Oper := ({ dst := some 36, op := Go.Op.binOp Go.BinOp.add 3 (Go.Operand.tmp 35) (Go.Operand.const (Go.Value.int Go.IntKind.i64 1)) 3, type := 3, pos := "strings.go:134", after := #[{ on := 1, ground := Go.Ground.data }], guard := none } : Oper)
def oPkLib11 : Oper := ({ dst := some 37, op := Go.Op.slice 9 (Go.Operand.tmp 34) (some (Go.Operand.tmp 36)) none none, type := 9, pos := "strings.go:134", after := #[{ on := 0, ground := Go.Ground.data }, { on := 2, ground := Go.Ground.data }], guard := none } : Oper)
def oPkLib12 : Oper := ({ dst := some 38, op := Go.Op.move (Go.Operand.tmp 7), type := 9, pos := "strings.go:134", after := #[], guard := none } : Oper)
def oPkLib13 : Oper := ({ dst := some 39, op := Go.Op.move (Go.Operand.tmp 8), type := 3, pos := "strings.go:134", after := #[], guard := none } : Oper)
def oPkLib14 : Oper := ({ dst := some 40, op := Go.Op.index 9 (Go.Operand.tmp 38) (Go.Operand.tmp 39), type := 5, pos := "strings.go:134", after := #[{ on := 4, ground := Go.Ground.data }, { on := 5, ground := Go.Ground.data }], guard := none } : Oper)
def oPkLib15 : Oper := ({ dst := some 41, op := Go.Op.call { callee := Go.Callee.value (Go.Operand.func 76), args := #[Go.Operand.tmp 37, Go.Operand.tmp 40], argTypes := #[9, 5] }, type := 3, pos := "strings.go:134", after := #[{ on := 3, ground := Go.Ground.data }, { on := 6, ground := Go.Ground.data }], guard := none } : Oper)
def oPkLib16 : Oper := ({ dst := some 11, op := Go.Op.assign (Go.Operand.tmp 41), type := 3, pos := "strings.go:134", after := #[{ on := 7, ground := Go.Ground.data }, { on := 7, ground := Go.Ground.chain }, { on := 0, ground := Go.Ground.phase }, { on := 1, ground := Go.Ground.phase }, { on := 2, ground := Go.Ground.phase }, { on := 3, ground := Go.Ground.phase }, { on := 4, ground := Go.Ground.phase }, { on := 5, ground := Go.Ground.phase }, { on := 6, ground := Go.Ground.phase }, { on := 7, ground := Go.Ground.phase }], guard := none } : Oper)
end
open Go.RowKit

theorem index_slash (l : List UInt8) : (Lib.index l [47] = -1 ∧ splitL l = [l]) ∨ ∃ i : Nat, i < l.length ∧ Lib.index l [47] = i ∧ splitL l = l.take i :: splitL (l.drop (i + 1)) := by
  induction l with
  | nil => exact Or.inl ⟨rfl, rfl⟩
  | cons c r ih =>
    by_cases hc : c = 47
    · subst hc
      exact Or.inr ⟨0, by simp, by simp [Lib.index], by simp [splitL]⟩
    · have hp : List.isPrefixOf [47] (c :: r) = false := by simp [List.isPrefixOf]; exact fun e => hc e.symm
      rcases ih with ⟨h1, h2⟩ | ⟨i, h0, h1, h2⟩
      · exact Or.inl ⟨by simp [Lib.index, hp, h1], by rw [splitL, if_neg hc, h2]⟩
      · refine Or.inr ⟨i + 1, by simpa using h0, ?_, by rw [splitL, if_neg hc, h2]; simp⟩
        simp only [Lib.index, hp, h1]
        rw [if_neg (by simp), if_neg (by simp)]
        omega
theorem split_slash : ∀ (n : Nat) (l : List UInt8), l.length ≤ n → Lib.splitK [47] 0 (Lib.count l [47]) l = splitL l
  | 0, l, h => by
    have : l = [] := List.eq_nil_of_length_eq_zero (by omega)
    subst this
    rfl
  | n + 1, l, h => by
    rcases index_slash l with ⟨h1, h2⟩ | ⟨i, h0, h1, h2⟩
    · rw [Lib.count_miss h1, h2]; rfl
    · rw [Lib.count_hit (by simp) h1, h2, Nat.add_comm 1, Lib.splitK, if_neg (by rw [h1]; simp), h1]
      have := split_slash n (l.drop (i + 1)) (by simp; omega)
      simp only [List.length_cons, List.length_nil, Nat.zero_add, Nat.add_zero, Int.toNat_natCast] at this ⊢
      rw [this]
theorem splitB_slash (l : List UInt8) : (Lib.splitB ⟨#[47]⟩ 0 (Lib.countB ⟨l.toArray⟩ ⟨#[47]⟩) ⟨l.toArray⟩).map Value.string = (splitL l).map fun x => Value.string ⟨x.toArray⟩ := by
  have h := Lib.splitB_data ⟨#[47]⟩ 0 (Lib.countB ⟨l.toArray⟩ ⟨#[47]⟩) ⟨l.toArray⟩
  have h2 : Lib.splitK [47] 0 (Lib.count l [47]) l = splitL l := split_slash l.length l (Nat.le_refl _)
  rw [show Lib.countB ⟨l.toArray⟩ ⟨#[47]⟩ = Lib.count l [47] by simp [Lib.countB]] at h ⊢
  rw [show (ByteArray.mk #[47]).data.toList = [47] from rfl, show (ByteArray.mk l.toArray).data.toList = l by simp, h2] at h
  rw [← h, List.map_map]
  refine List.map_congr_left fun b _ => ?_
  simp
theorem count_slash (l : List UInt8) : Lib.countB ⟨l.toArray⟩ ⟨#[47]⟩ + 1 = (splitL l).length := by
  have : ∀ (n : Nat) (l : List UInt8), l.length ≤ n → Lib.count l [47] + 1 = (splitL l).length := by
    intro n
    induction n with
    | zero =>
      intro l h
      have : l = [] := List.eq_nil_of_length_eq_zero (by omega)
      subst this
      rfl
    | succ n ih =>
      intro l h
      rcases index_slash l with ⟨h1, h2⟩ | ⟨i, h0, h1, h2⟩
      · rw [Lib.count_miss h1, h2]; rfl
      · have := ih (l.drop (i + 1)) (by simp; omega)
        rw [Lib.count_hit (by simp) h1, h2]
        simp only [List.length_cons, List.length_nil, Nat.zero_add] at this ⊢
        omega
  rw [show Lib.countB ⟨l.toArray⟩ ⟨#[47]⟩ = Lib.count l [47] by simp [Lib.countB]]
  exact this l.length l (Nat.le_refl _)
theorem any_hasW (l : List UInt8) : decide (0 ≤ Lib.indexAny l [43, 35]) = hasW l := by
  induction l with
  | nil => rfl
  | cons c r ih =>
    have hg := Lib.indexAny_ge [43, 35] r
    have hc : [43, 35].contains c = isW c := by simp [isW, List.contains, List.elem]; cases h1 : (c == 43) <;> cases h2 : (c == 35) <;> simp_all
    rw [hasW_cons, Lib.indexAny, hc, ← ih]
    cases isW c with
    | true => simp
    | false =>
      simp only [Bool.false_eq_true, if_false, Bool.false_or]
      by_cases h : Lib.indexAny r [43, 35] = -1
      · simp [h]
      · rw [if_neg (by simpa using h)]
        have : 0 ≤ Lib.indexAny r [43, 35] := by omega
        simp [this]; omega
theorem decL_w (l : List UInt8) (h : l ≠ []) : 1 ≤ (decL l).2 ∧ (decL l).2 ≤ l.length ∧ hasW l = (((decL l).1 == 43 || (decL l).1 == 35) || hasW (l.drop (decL l).2)) ∧ ((decL l).1 < 128 ∨ ((decL l).1 ≥ 128 ∧ ((decL l).1 = 65533 ∨ Utf8.valid (decL l).1 = true))) := by
  obtain ⟨a, r, rfl⟩ : ∃ a r, l = a :: r := by cases l with | nil => exact absurd rfl h | cons a r => exact ⟨a, r, rfl⟩
  have ha := a.toNat_lt
  have hbig : ∀ b : UInt8, 128 ≤ b.toNat → isW b = false := by
    intro b hb
    unfold isW
    rw [Bool.or_eq_false_iff]
    constructor <;> (rw [beq_eq_false_iff_ne]; rintro rfl; revert hb; decide)
  have hcont : ∀ b : UInt8, (b.toNat / 64 == 2) = true → isW b = false := by
    intro b hb
    refine hbig b ?_
    have : b.toNat / 64 = 2 := by simpa using hb
    omega
  by_cases h1 : a.toNat < 128
  · have hd : decL (a :: r) = (a.toNat, 1) := by simp [decL, h1]
    rw [hd]
    refine ⟨Nat.le_refl _, by simp, ?_, Or.inl h1⟩
    have hw : isW a = ((a.toNat == 43) || (a.toNat == 35)) := by
      unfold isW
      congr 1 <;> (rw [Bool.eq_iff_iff, beq_iff_eq, beq_iff_eq]; exact ⟨fun e => by rw [e]; rfl, fun e => UInt8.toNat_inj.1 e⟩)
    simp [hasW_cons, hw]
  · have hwa := hbig a (by omega)
    have hone : ∀ d, decL (a :: r) = d → d = (65533, 1) → 1 ≤ d.2 ∧ d.2 ≤ (a :: r).length ∧ hasW (a :: r) = ((d.1 == 43 || d.1 == 35) || hasW ((a :: r).drop d.2)) ∧ (d.1 < 128 ∨ (d.1 ≥ 128 ∧ (d.1 = 65533 ∨ Utf8.valid d.1 = true))) := by
      rintro d - rfl
      refine ⟨Nat.le_refl _, by simp, by simp [hasW_cons, hwa], by simp⟩
    have key : decL (a :: r) = (65533, 1) ∨ ∃ c n : Nat, decL (a :: r) = (c, n) ∧ 128 ≤ c ∧ (c = 65533 ∨ Utf8.valid c = true) ∧ 2 ≤ n ∧ n ≤ (a :: r).length ∧ ∀ k, 1 ≤ k → k < n → isW ((a :: r).getD k 0) = false := by
      unfold decL
      simp only [List.getD_cons_zero, h1, if_false]
      split
      · rename_i c2
        simp only [Bool.and_eq_true, decide_eq_true_eq] at c2
        split
        · refine Or.inr ⟨_, 2, rfl, by omega, Or.inr (by simp [Utf8.valid]; omega), by omega, by omega, fun k k1 k2 => ?_⟩
          obtain rfl : k = 1 := by omega
          exact hcont _ c2.2.2
        · exact Or.inl rfl
      · split
        · rename_i c2
          simp only [Bool.and_eq_true, decide_eq_true_eq] at c2
          split
          · rename_i c3
            simp only [Bool.and_eq_true, decide_eq_true_eq] at c3
            refine Or.inr ⟨_, 3, rfl, by omega, Or.inr c3.2, by omega, by omega, fun k k1 k2 => ?_⟩
            rcases (show k = 1 ∨ k = 2 by omega) with rfl | rfl
            · exact hcont _ c2.1.2.2
            · exact hcont _ c2.2.2
          · exact Or.inl rfl
        · split
          · rename_i c2
            simp only [Bool.and_eq_true, decide_eq_true_eq] at c2
            split
            · rename_i c3
              simp only [Bool.and_eq_true, decide_eq_true_eq] at c3
              refine Or.inr ⟨_, 4, rfl, by omega, Or.inr c3.2, by omega, by omega, fun k k1 k2 => ?_⟩
              rcases (show k = 1 ∨ k = 2 ∨ k = 3 by omega) with rfl | rfl | rfl
              · exact hcont _ c2.1.1.2.2
              · exact hcont _ c2.1.2.2
              · exact hcont _ c2.2.2
            · exact Or.inl rfl
          · exact Or.inl rfl
    rcases key with k0 | ⟨c, n, k0, k1, k2, k3, k4, k5⟩
    · exact hone _ rfl k0
    · rw [k0]
      refine ⟨by show 1 ≤ n; omega, k4, ?_, Or.inr ⟨k1, k2⟩⟩
      have hskip : ∀ (n : Nat) (L : List UInt8), n ≤ L.length → (∀ k, k < n → isW (L.getD k 0) = false) → hasW L = hasW (L.drop n) := by
        intro n
        induction n with
        | zero => intro L _ _; rfl
        | succ n ih =>
          intro L hl hk
          cases L with
          | nil => rfl
          | cons b L =>
            have hb : isW b = false := hk 0 (by omega)
            rw [hasW_cons, hb, Bool.false_or, List.drop_succ_cons]
            exact ih L (by simpa using hl) (fun k hk' => by have := hk (k + 1) (by omega); simpa using this)
      have hc43 : (c == 43) = false := by simp; omega
      have hc35 : (c == 35) = false := by simp; omega
      show hasW (a :: r) = ((c == 43 || c == 35) || hasW ((a :: r).drop n))
      rw [hc43, hc35, Bool.or_false, Bool.false_or]
      refine hskip n (a :: r) k4 (fun k hk => ?_)
      rcases Nat.eq_zero_or_pos k with rfl | hk0
      · exact hwa
      · exact k5 k hk0 hk
theorem idxByte_nil (c : Int) (w : World) : Calls Tryz.prog 76 #[.string ⟨#[]⟩, .int .u8 c] w fun e w' => e = .returned (.int .i64 (-1)) ∧ w = w' :=
  (Tryz.strings_IndexByte ⟨#[]⟩ c w).mono fun _ _ ⟨he, hw⟩ => ⟨he, hw.symm⟩
set_option maxRecDepth 100000 in
theorem idxRune_err (w : World) :
    Calls Tryz.prog 65 #[.string ⟨#[43, 35]⟩, .int .i32 65533] w fun e w' => e = .returned (.int .i64 (-1)) ∧ Below w.heap.size w w' := by
  go_enter Tryz.func65, Tryz.ntmps65
  go_wp2
  go_loopw [5, 6] (fun _ _ wr => ∃ pos, pos ≤ 2 ∧ wr = w.iter ⟨#[43, 35]⟩ pos) (fun _ _ wr => 2 - wr.iterPos w.heap.size)
  case atStart => exact ⟨0, by omega, rfl⟩
  case round =>
    obtain ⟨pos, hp, rfl⟩ := hrel
    rcases (show pos = 0 ∨ pos = 1 ∨ pos = 2 by omega) with rfl | rfl | rfl
    · have hnx : ∀ ty, (Instr.next (.pointer (some ⟨w.heap.size, 0, none⟩)) true ty).run Tryz.prog (w.iter ⟨#[43, 35]⟩ 0) = .ok (.tuple #[.bool true, .int .i64 0, .int .i32 43]) (w.iter ⟨#[43, 35]⟩ 1) := fun ty => run_next_any w ⟨#[43, 35]⟩ 0 ty (by decide)
      go_wp2
      go_roundw
      case rel => exact ⟨1, by omega, rfl⟩
      case measure => simp
    · have hnx : ∀ ty, (Instr.next (.pointer (some ⟨w.heap.size, 0, none⟩)) true ty).run Tryz.prog (w.iter ⟨#[43, 35]⟩ 1) = .ok (.tuple #[.bool true, .int .i64 1, .int .i32 35]) (w.iter ⟨#[43, 35]⟩ 2) := fun ty => run_next_any w ⟨#[43, 35]⟩ 1 ty (by decide)
      go_wp2
      go_roundw
      case rel => exact ⟨2, by omega, rfl⟩
      case measure => simp
    · have hnx : ∀ ty, (Instr.next (.pointer (some ⟨w.heap.size, 0, none⟩)) true ty).run Tryz.prog (w.iter ⟨#[43, 35]⟩ 2) = _ := fun ty => run_next_end w ⟨#[43, 35]⟩ 2 ty (by decide)
      go_wp2
      go_ret
      exact ⟨rfl, (Below.refl _ _).alloc (Nat.le_refl _) _⟩
set_option maxRecDepth 100000 in
theorem idxRune_big (r : Nat) (w : World) (h : 128 ≤ r) (hv : Utf8.valid r = true) (he : r ≠ 65533) :
    Calls Tryz.prog 65 #[.string ⟨#[43, 35]⟩, .int .i32 r] w fun e w' => e = .returned (.int .i64 (-1)) ∧ Below w.heap.size w w' := by
  have hd1 : decide ((r : Int) < 128) = false := by simp; omega
  have hd2 : ((r : Int) == 65533) = false := by simp; omega
  obtain ⟨e1, e2, e3⟩ := encode_facts r hv (by omega)
  have hv2 : Lib.validRune r = true := by
    unfold Lib.validRune
    unfold Utf8.valid at hv
    simp at hv ⊢
    omega
  clear hv
  generalize hE : Utf8.encode r = E at *
  have HE := Lib.hid hE
  clear hE
  go_enter Tryz.func65, Tryz.ntmps65
  go_wp2_with (go_at_call 77; refine (Tryz.utf8_ValidRune _ _).mono ?_; rintro e w1 ⟨rfl, rfl⟩)
  go_step3
  go_wp2
  rw [HE.out]
  rcases (show E.size = 2 ∨ E.size = 3 ∨ E.size = 4 by omega) with hs | hs | hs
  · have hlt : 1 < E.size := by omega
    have hx : 128 ≤ (E[1]'hlt).toNat := by
      have := e3 (by omega)
      simpa [hs] using this
    have hw : wrap64 ((E.size : Int) - 1) = 1 := by
      have h2 : wrap64 ((E.size : Int) - 1) = (E.size : Int) - 1 := IntWalk.wrap64_in _ (by omega)
      omega
    have HS := Lib.hid hs
    have hx2 : ((E[1]'hlt).toNat : Int) ≠ 35 := by omega
    have hx3 : ((35 : Int) == ((E[1]'hlt).toNat : Int)) = false := by simp; omega
    have hlt2 : (1 : Int) < (E.size : Int) := by omega
    have h35 : ∀ h, ((ByteArray.mk #[43, 35])[1]'h).toNat = 35 := fun _ => rfl
    have hx4 : ((35 : Int) != ((E[1]'hlt).toNat : Int)) = true := by simp; omega
    clear hx2 hx3
    have hw2 : IntKind.i64.wrap 2 = 2 := IntWalk.i64_in _ (by omega)
    clear e1 e2 e3 hs hx h he hd1 hd2 hv2
    rw [hw]
    clear hw
    apply wp_loop_once
    go_wp2_with fail
    go_step3
    go_wp2_with fail
    refine wp_region_held_drew (S := (fun w' => Below w1.heap.size w1 w')) (by kernel_rfl) ((Below.refl _ _).drew) (fun hHeld => ?_)
    refine tkY 0 oPkLib1 ?vv1_1_0 rfl (by kernel_rfl) (by kernel_rfl) (by kernel_rfl) (fun _ _ _ h => h) (by rfl) ?hy1_1_0 (by assumption) ?rest1_1_0
    case hy1_1_0 => (intro w hSw; unfold oPkLib1; (try dsimp only at hSw); (try go_split_ands); go_simp; all_goals with_reducible rfl)
    try simp only [oPkLib1, Act.put, sA, sB, sC]
    refine tkY 1 oPkLib2 ?vv1_1_1 rfl (by kernel_rfl) (by kernel_rfl) (by kernel_rfl) (fun _ _ _ h => h) (by rfl) ?hy1_1_1 (by assumption) ?rest1_1_1
    case hy1_1_1 => (intro w hSw; unfold oPkLib2; (try dsimp only at hSw); (try go_split_ands); go_simp; all_goals with_reducible rfl)
    try simp only [oPkLib2, Act.put, sA, sB, sC]
    refine tkY 2 oPkLib3 ?vv1_1_2 rfl (by kernel_rfl) (by kernel_rfl) (by kernel_rfl) (fun _ _ _ h => h) (by rfl) ?hy1_1_2 (by assumption) ?rest1_1_2
    case hy1_1_2 => (intro w hSw; unfold oPkLib3; (try dsimp only at hSw); (try go_split_ands); go_simp; all_goals with_reducible rfl)
    try simp only [oPkLib3, Act.put, sA, sB, sC]
    refine tkY 3 oPkLib4 ?vv1_1_3 rfl (by kernel_rfl) (by kernel_rfl) (by kernel_rfl) (fun _ _ _ h => h) (by rfl) ?hy1_1_3 (by assumption) ?rest1_1_3
    case hy1_1_3 => (intro w hSw; unfold oPkLib4; (try dsimp only at hSw); (try go_split_ands); go_simp; all_goals with_reducible rfl)
    try simp only [oPkLib4, Act.put, sA, sB, sC]
    refine tkY 4 oPkLib5 ?vv1_1_4 rfl (by kernel_rfl) (by kernel_rfl) (by kernel_rfl) (fun _ _ _ h => h) (by rfl) ?hy1_1_4 (by assumption) ?rest1_1_4
    case hy1_1_4 => (intro w hSw; unfold oPkLib5; (try dsimp only at hSw); (try go_split_ands); go_simp; all_goals with_reducible rfl)
    try simp only [oPkLib5, Act.put, sA, sB, sC]
    refine tkY 5 oPkLib6 ?vv1_1_5 rfl (by kernel_rfl) (by kernel_rfl) (by kernel_rfl) (fun _ _ _ h => h) (by rfl) ?hy1_1_5 (by assumption) ?rest1_1_5
    case hy1_1_5 => (intro w hSw; unfold oPkLib6; (try dsimp only at hSw); (try go_split_ands); go_simp; all_goals with_reducible rfl)
    try simp only [oPkLib6, Act.put, sA, sB, sC]
    refine tkY 6 oPkLib7 ?vv1_1_6 rfl (by kernel_rfl) (by kernel_rfl) (by kernel_rfl) (fun _ _ _ h => h) (by rfl) ?hy1_1_6 (by assumption) ?rest1_1_6
    case hy1_1_6 => (intro w hSw; unfold oPkLib7; (try dsimp only at hSw); (try go_split_ands); go_simp; all_goals with_reducible rfl)
    try simp only [oPkLib7, Act.put, sA, sB, sC]
    refine wpAnyH_done (by kernel_rfl) ?_ _
    go_wp2_with fail
    refine wp_region_held_drew (S := (fun w' => Below w1.heap.size w1 w')) (by kernel_rfl) (hHeld.drew) (fun hHeld => ?_)
    refine tkY 0 oPkLib8 ?vv2_2_0 rfl (by kernel_rfl) (by kernel_rfl) (by kernel_rfl) (fun _ _ _ h => h) (by rfl) ?hy2_2_0 (by assumption) ?rest2_2_0
    case hy2_2_0 => (intro w hSw; unfold oPkLib8; (try dsimp only at hSw); (try go_split_ands); go_simp; all_goals with_reducible rfl)
    try simp only [oPkLib8, Act.put, sA, sB, sC]
    refine tkY 1 oPkLib9 ?vv2_2_1 rfl (by kernel_rfl) (by kernel_rfl) (by kernel_rfl) (fun _ _ _ h => h) (by rfl) ?hy2_2_1 (by assumption) ?rest2_2_1
    case hy2_2_1 => (intro w hSw; unfold oPkLib9; (try dsimp only at hSw); (try go_split_ands); go_simp; all_goals with_reducible rfl)
    try simp only [oPkLib9, Act.put, sA, sB, sC]
    refine tkY 2 oPkLib10 ?vv2_2_2 rfl (by kernel_rfl) (by kernel_rfl) (by kernel_rfl) (fun _ _ _ h => h) (by rfl) ?hy2_2_2 (by assumption) ?rest2_2_2
    case hy2_2_2 => (intro w hSw; unfold oPkLib10; (try dsimp only at hSw); (try go_split_ands); go_simp; all_goals with_reducible rfl)
    try simp only [oPkLib10, Act.put, sA, sB, sC]
    refine tkY 3 oPkLib11 ?vv2_2_3 rfl (by kernel_rfl) (by kernel_rfl) (by kernel_rfl) (fun _ _ _ h => h) (by rfl) ?hy2_2_3 (by assumption) ?rest2_2_3
    case hy2_2_3 => (intro w hSw; unfold oPkLib11; (try dsimp only at hSw); (try go_split_ands); go_simp; all_goals with_reducible rfl)
    try simp only [oPkLib11, Act.put, sA, sB, sC]
    refine tkY 4 oPkLib12 ?vv2_2_4 rfl (by kernel_rfl) (by kernel_rfl) (by kernel_rfl) (fun _ _ _ h => h) (by rfl) ?hy2_2_4 (by assumption) ?rest2_2_4
    case hy2_2_4 => (intro w hSw; unfold oPkLib12; (try dsimp only at hSw); (try go_split_ands); go_simp; all_goals with_reducible rfl)
    try simp only [oPkLib12, Act.put, sA, sB, sC]
    refine tkY 5 oPkLib13 ?vv2_2_5 rfl (by kernel_rfl) (by kernel_rfl) (by kernel_rfl) (fun _ _ _ h => h) (by rfl) ?hy2_2_5 (by assumption) ?rest2_2_5
    case hy2_2_5 => (intro w hSw; unfold oPkLib13; (try dsimp only at hSw); (try go_split_ands); go_simp; all_goals with_reducible rfl)
    try simp only [oPkLib13, Act.put, sA, sB, sC]
    refine tkY 6 oPkLib14 ?vv2_2_6 rfl (by kernel_rfl) (by kernel_rfl) (by kernel_rfl) (fun _ _ _ h => h) (by rfl) ?hy2_2_6 (by assumption) ?rest2_2_6
    case hy2_2_6 => (intro w hSw; unfold oPkLib14; (try dsimp only at hSw); (try go_split_ands); go_simp; all_goals with_reducible rfl)
    try simp only [oPkLib14, Act.put, sA, sB, sC]
    refine wpAnyH_ready (rs := [7]) (by kernel_rfl) (by simp) ?_
    refine AllReadyH.cons (o := oPkLib15) rfl (fun K hK => ?_) AllReadyH.nil
    unfold oPkLib15
    go_simp
    (go_at_call 76; refine (idxByte_nil _ _).mono ?_; rintro e w6 ⟨rfl, rfl⟩)
    refine hK.out _ _ ?_ (fun hHeld => ?_)
    · (exact hHeld)
    clear hK K
    try simp only [oPkLib15, Act.put, sA, sB, sC]
    refine tkY 8 oPkLib16 ?vv2_3_8 rfl (by kernel_rfl) (by kernel_rfl) (by kernel_rfl) (fun _ _ _ h => h) (by rfl) ?hy2_3_8 (by assumption) ?rest2_3_8
    case hy2_3_8 => (intro w hSw; unfold oPkLib16; (try dsimp only at hSw); (try go_split_ands); go_simp; all_goals with_reducible rfl)
    try simp only [oPkLib16, Act.put, sA, sB, sC]
    refine wpAnyH_done (by kernel_rfl) ?_ _
    go_wp2_with fail
    rw [Exit.noGoto_ret]
    go_wp2_with fail
    rw [Exit.noGoto_ret]
    go_ret
    exact ⟨rfl, hHeld⟩
  all_goals
    have hw : 2 ≤ wrap64 ((E.size : Int) - 1) := by
      have h2 : wrap64 ((E.size : Int) - 1) = (E.size : Int) - 1 := IntWalk.wrap64_in _ (by omega)
      omega
    clear e1 e2 e3 hs h he hd1 hd2 hv2
    generalize wrap64 ((E.size : Int) - 1) = k at *
    have hk : decide (k < 2) = false := by simp; omega
    clear hw
    apply wp_loop_once
    go_wp2_with fail
    rw [Exit.noGoto_ret]
    go_ret
    exact ⟨rfl, Below.refl _ _⟩
theorem idxRune_any (r : Nat) (w : World) (h : r < 128 ∨ (r ≥ 128 ∧ (r = 65533 ∨ Utf8.valid r = true))) :
    Calls Tryz.prog 65 #[.string ⟨#[43, 35]⟩, .int .i32 r] w fun e w' => ∃ v : Int, e = .returned (.int .i64 v) ∧ decide (0 ≤ v) = (r == 43 || r == 35) ∧ Below w.heap.size w w' := by
  rcases h with h | ⟨h1, h2⟩
  · refine (Tryz.strings_IndexRune_ascii ⟨#[43, 35]⟩ r w (by omega) (by omega)).mono ?_
    rintro e w' ⟨rfl, rfl⟩
    refine ⟨_, rfl, ?_, Below.refl _ _⟩
    have key : ∀ r : Fin 128, decide (0 ≤ Lib.indexByte [43, 35] (r.val : Int).toNat.toUInt8) = (r.val == 43 || r.val == 35) := by decide +kernel
    exact key ⟨r, h⟩
  · have hf : (r == 43 || r == 35) = false := by simp; omega
    rw [hf]
    by_cases he : r = 65533
    · subst he
      exact (idxRune_err w).mono fun e w' ⟨he, hb⟩ => ⟨_, he, by decide, hb⟩
    · exact (idxRune_big r w h1 (h2.resolve_left he) he).mono fun e w' ⟨he, hb⟩ => ⟨_, he, by decide, hb⟩
theorem idxRune_yes (r : Nat) (w : World) (h : r < 128 ∨ (r ≥ 128 ∧ (r = 65533 ∨ Utf8.valid r = true))) (hr : (r == 43 || r == 35) = true) :
    Calls Tryz.prog 65 #[.string ⟨#[43, 35]⟩, .int .i32 r] w fun e w' => ∃ v : Int, e = .returned (.int .i64 v) ∧ decide (0 ≤ v) = true ∧ Below w.heap.size w w' := by
  rw [← hr]; exact idxRune_any r w h
theorem idxRune_no (r : Nat) (w : World) (h : r < 128 ∨ (r ≥ 128 ∧ (r = 65533 ∨ Utf8.valid r = true))) (hr : (r == 43 || r == 35) = false) :
    Calls Tryz.prog 65 #[.string ⟨#[43, 35]⟩, .int .i32 r] w fun e w' => ∃ v : Int, e = .returned (.int .i64 v) ∧ decide (0 ≤ v) = false ∧ Below w.heap.size w w' := by
  rw [← hr]; exact idxRune_any r w h
theorem iterPos_at {w : World} {g : Nat} {s : ByteArray} {pos : Nat} (h : w.heap[g]? = some (.stringIter s pos)) : w.iterPos g = pos := by
  unfold World.iterPos; rw [h]
theorem next_gen {P : Program} (w : World) (g : Nat) (s : ByteArray) (pos : Nat) (hg : w.heap[g]? = some (.stringIter s pos)) (h : pos < s.size) (w0 : World) (hb : Below g w0 w) :
    ∃ wn : World, wn.heap[g]? = some (.stringIter s (pos + (Utf8.decode s pos).2)) ∧ Below g w0 wn ∧ ∀ ty, (Instr.next (.pointer (some ⟨g, 0, none⟩)) true ty).run P w = .ok (.tuple #[.bool true, .int .i64 pos, .int .i32 (Utf8.decode s pos).1]) wn := by
  have hlt := (Array.getElem?_eq_some_iff.1 hg).1
  refine ⟨{ w with heap := w.heap.setIfInBounds g (.stringIter s (pos + (Utf8.decode s pos).2)) }, ?_, ?_, ?_⟩
  · simp [hlt]
  · refine ⟨hb.os, hb.tape, hb.output, by simpa using hb.size, fun k hk => ?_⟩
    rw [← hb.block k hk]
    show (w.heap.setIfInBounds g _)[k]? = _
    rw [Array.getElem?_setIfInBounds, if_neg (by omega)]
  · intro ty
    simp only [Instr.next, getObj, setObj, Sem.run_bind, Sem.run, hg, Result.andThen, h, if_true]
    simp [goInt]
theorem next_stop {P : Program} (w : World) (g : Nat) (s : ByteArray) (pos : Nat) (hg : w.heap[g]? = some (.stringIter s pos)) (h : ¬ pos < s.size) (ty : TypeId) :
    (Instr.next (.pointer (some ⟨g, 0, none⟩)) true ty).run P w = .ok (.tuple #[.bool false]) w := by
  simp [Instr.next, getObj, Sem.run, hg, h]
theorem idxAny_short (l : List UInt8) (w : World) (hl : l.length ≤ 8) :
    Calls Tryz.prog 54 #[.string ⟨l.toArray⟩, .string ⟨#[43, 35]⟩] w fun e w' => ∃ v : Int, e = .returned (.int .i64 v) ∧ decide (0 ≤ v) = hasW l ∧ Below w.heap.size w w' := by
  have hsz : (ByteArray.mk l.toArray).size = l.length := by show l.toArray.size = _; simp
  have hszH := Lib.hid hsz
  clear hsz
  have hl8 : decide ((8 : Int) < (l.length : Int)) = false := by simp; omega
  go_enter Tryz.func54, Tryz.ntmps54
  go_wp2_with (go_at_call 66; refine (Tryz.strings_shouldUseASCIISet _ _).mono ?_; rintro e w1 ⟨rfl, rfl⟩)
  obtain ⟨wr0, hw0⟩ : ∃ wr0 : World, wr0 = w1.iter ⟨l.toArray⟩ 0 := ⟨_, rfl⟩
  have hi0 : wr0.heap[w1.heap.size]? = some (.stringIter ⟨l.toArray⟩ 0) := by rw [hw0]; exact World.iter_heap _ _ _
  have hb0 : Below w1.heap.size w1 wr0 := by rw [hw0]; exact (Below.refl _ _).alloc (Nat.le_refl _) _
  rw [← hw0]
  clear hw0
  go_loopw [9, 10] (fun _ _ wr => ∃ pos, wr.heap[w1.heap.size]? = some (.stringIter ⟨l.toArray⟩ pos) ∧ Below w1.heap.size w1 wr ∧ pos ≤ l.length ∧ Hid (hasW l = hasW (l.drop pos))) (fun _ _ wr => l.length - wr.iterPos w1.heap.size)
  case atStart => exact ⟨0, hi0, hb0, by omega, rfl⟩
  case round =>
    clear hi0 hb0
    obtain ⟨pos, hi, hb, hpos, hc⟩ := hrel
    by_cases hp : pos < l.length
    · have hne : l.drop pos ≠ [] := by
        intro h
        have := congrArg List.length h
        rw [List.length_drop] at this
        simp at this
        omega
      obtain ⟨d1, d2, d3, d4⟩ := decL_w (l.drop pos) hne
      rw [List.length_drop] at d2
      obtain ⟨wn, hwn, hbn, hnx⟩ := next_gen (P := Tryz.prog) wr w1.heap.size ⟨l.toArray⟩ pos hi (by rw [hszH.out]; exact hp) w1 hb
      rw [dec_list l pos] at hwn hnx
      generalize (decL (l.drop pos)).1 = r at *
      generalize (decL (l.drop pos)).2 = k at *
      have hip := Lib.hid (iterPos_at hi)
      clear hi hb hne
      cases hr : (r == 43 || r == 35) with
      | true =>
        have HR := Lib.hid hr
        rw [hr] at d3
        have HD := Lib.hid d3
        have H4 := Lib.hid d4
        clear hr d3 d4
        go_wp2_with fail
        refine (idxRune_yes r _ H4.out HR.out).mono ?_
        rintro e w6 ⟨v, rfl, hv, hb6⟩
        go_wp2_with fail
        go_ret
        exact ⟨_, rfl, by rw [hc.out, HD.out]; simp, below_more hbn hb6⟩
      | false =>
        have HR := Lib.hid hr
        rw [hr] at d3
        have HD := Lib.hid d3
        have H4 := Lib.hid d4
        clear hr d3 d4
        go_wp2_with fail
        refine (idxRune_no r _ H4.out HR.out).mono ?_
        rintro e w6 ⟨v, rfl, hv, hb6⟩
        go_wp2_with fail
        have hw6 : w6.heap[w1.heap.size]? = some (.stringIter ⟨l.toArray⟩ (pos + k)) := (hb6.block _ (Array.getElem?_eq_some_iff.1 hwn).1).trans hwn
        have hb7 := below_more hbn hb6
        go_roundw
        case rel => exact ⟨pos + k, hw6, hb7, by omega, by show hasW l = _; rw [hc.out, HD.out, List.drop_drop, Bool.false_or]⟩
        case measure => rw [hip.out, iterPos_at hw6]; omega
    · have hnx := next_stop (P := Tryz.prog) wr w1.heap.size ⟨l.toArray⟩ pos hi (by rw [hszH.out]; exact hp)
      have HE : Hid (l.drop pos = []) := List.drop_eq_nil_of_le (by omega)
      go_wp2
      go_ret
      exact ⟨_, rfl, by rw [hc.out, HE.out]; decide, hb⟩
theorem idxAny_any (l : List UInt8) (w : World) (hl : l.length ≤ 1000000000) :
    Calls Tryz.prog 54 #[.string ⟨l.toArray⟩, .string ⟨#[43, 35]⟩] w fun e w' => ∃ v : Int, e = .returned (.int .i64 v) ∧ decide (0 ≤ v) = hasW l ∧ Below w.heap.size w w' := by
  have hsz : (ByteArray.mk l.toArray).size = l.length := by show l.toArray.size = _; simp
  by_cases h : l.length ≤ 8
  · exact idxAny_short l w h
  · refine (Tryz.strings_IndexAny_long (zero_of_info (n := 256) (by kernel_rfl)).1 ⟨l.toArray⟩ ⟨#[43, 35]⟩ w (by decide) (by rw [hsz]; omega) (by rw [hsz]; omega) (by decide) ?_).mono ?_
    · intro j b hb
      match j, hb with
      | 0, hb => cases hb; decide
      | 1, hb => cases hb; decide
      | j + 2, hb => simp at hb
    · rintro e w' ⟨rfl, rfl⟩
      refine ⟨_, rfl, ?_, ((Below.refl _ _).alloc (Nat.le_refl _) _).alloc (by simp) _⟩
      have := any_hasW l
      simpa using this
theorem contAny_any (l : List UInt8) (w : World) (hl : l.length ≤ 1000000000) :
    Calls Tryz.prog 39 #[.string ⟨l.toArray⟩, .string ⟨#[43, 35]⟩] w fun e w' => e = .returned (.bool (hasW l)) ∧ Below w.heap.size w w' := by
  go_enter Tryz.func39, Tryz.ntmps39
  go_wp2_with fail
  refine (idxAny_any l _ hl).mono ?_
  rintro e w1 ⟨v, rfl, hv, hb⟩
  go_wp2_with fail
  go_ret
  exact ⟨rfl, hb⟩
theorem contAny_eq (l : List UInt8) (b : Bool) (w : World) (hl : l.length ≤ 1000000000) (h : hasW l = b) :
    Calls Tryz.prog 39 #[.string ⟨l.toArray⟩, .string ⟨#[43, 35]⟩] w fun e w' => e = .returned (.bool b) ∧ Below w.heap.size w w' := h ▸ contAny_any l w hl
theorem split_any (l : List UInt8) (m : Int) (w : World) (hm : w.cell? ⟨0, 0, none⟩ = some (.int .i64 m)) (hl : l.length ≤ 1000000000) :
    Calls Tryz.prog 64 #[.string ⟨l.toArray⟩, .string ⟨#[47]⟩] w fun e w' => ∃ g, e = .returned (.slice (some ⟨g, 0, none⟩) (splitL l).length (splitL l).length) ∧ Strs w' (some ⟨g, 0, none⟩) (splitL l).length (splitL l) ∧ Below w.heap.size w w' := by
  have hsz : (ByteArray.mk l.toArray).size = l.length := by show l.toArray.size = _; simp
  refine (Tryz.strings_Split ⟨l.toArray⟩ ⟨#[47]⟩ m w (by rw [hsz]; omega) hm (by decide)).mono ?_
  rintro e w' ⟨rfl, rfl⟩
  refine ⟨w.heap.size, by rw [count_slash], ?_, (Below.refl _ _).alloc (Nat.le_refl _) _⟩
  rw [splitB_slash]
  exact strs_new w (splitL l) _
theorem splitL_le (l : List UInt8) : ∀ x ∈ splitL l, x.length ≤ l.length := by
  induction l with
  | nil => intro x hx; simp [splitL] at hx; subst hx; simp
  | cons c r ih =>
    intro x hx
    by_cases hc : c = 47
    · rw [splitL, if_pos hc] at hx
      rcases List.mem_cons.1 hx with rfl | hx
      · simp
      · have := ih x hx; simp; omega
    · obtain ⟨h, t, e⟩ := splitL_ne r
      rw [splitL, if_neg hc, e] at hx
      rw [e] at ih
      rcases List.mem_cons.1 hx with rfl | hx
      · have := ih h (by simp); simp; omega
      · have := ih x (by simp [hx]); simp; omega
theorem levB_drop (L : List (List UInt8)) (k : Nat) (x : List UInt8) (hx : L[k]? = some x) (hk : k + 1 < L.length) : levB (L.drop k) = (lvB x && levB (L.drop (k + 1))) := by
  obtain ⟨h1, h2⟩ := List.getElem?_eq_some_iff.1 hx
  rw [List.drop_eq_getElem_cons h1, h2, List.drop_eq_getElem_cons hk, levB]
theorem levB_last (L : List (List UInt8)) (k : Nat) (x : List UInt8) (hx : L[k]? = some x) (hk : k + 1 = L.length) : levB (L.drop k) = (x == [35] || lvB x) := by
  obtain ⟨h1, h2⟩ := List.getElem?_eq_some_iff.1 hx
  rw [List.drop_eq_getElem_cons h1, h2, List.drop_eq_nil_of_le (by omega), levB]
/-- What the world must hold for strings.Split: its own variable holds some number. -/
def Glo (w : World) : Prop := ∃ m, w.cell? ⟨0, 0, none⟩ = some (.int .i64 m)
theorem Glo.below {w w' : World} (h : Glo w) (hb : Below w.heap.size w w') : Glo w' := by
  obtain ⟨m, hm⟩ := h
  exact ⟨m, (hb.cell (World.block_lt_of_cell? _ _ hm)).trans hm⟩
end Go.Proofs.YthhadjnffeadfaaGreatDoor
