/-
  The document's own framer: in the world, and what its methods do.
-/
import Derived.Test.YtnaedcennichlaaGreatDoorFpDec3
import Derived.Test.YtnaedcennichlaaGreatDoorFpNx
set_option linter.unusedSimpArgs false
set_option linter.unusedVariables false
namespace Go.Proofs.YtnaedcennichlaaGreatDoor
open Go.RowKit
set_option maxRecDepth 100000
/-- A framer's cells: limit, bytes, error. -/
def RfC (m : Int) (s : List UInt8) (e : Int) : Array Value := #[.int .i64 m, .string ⟨s.toArray⟩, .int .i64 e]
section
variable {m e : Int} {s : List UInt8}
@[go_sem, simp] theorem RfC_size : (RfC m s e).size = 3 := rfl
@[go_sem] theorem RfC_one : ones (RfC m s e) = true := by simp [ones, RfC, Value.oneCell']
@[go_sem] theorem RfC_ne : (RfC m s e = #[]) = False := by simp [RfC]
@[go_sem high] theorem RfC_0 : (RfC m s e)[0]? = some (.int .i64 m) := rfl
@[go_sem high] theorem RfC_1 : (RfC m s e)[1]? = some (.string ⟨s.toArray⟩) := rfl
@[go_sem high] theorem RfC_2 : (RfC m s e)[2]? = some (.int .i64 e) := rfl
@[go_sem] theorem RfC_g0 (h : 0 < (RfC m s e).size) : (RfC m s e)[0]'h = .int .i64 m := rfl
@[go_sem] theorem RfC_g1 (h : 1 < (RfC m s e).size) : (RfC m s e)[1]'h = .string ⟨s.toArray⟩ := rfl
@[go_sem] theorem RfC_g2 (h : 2 < (RfC m s e).size) : (RfC m s e)[2]'h = .int .i64 e := rfl
@[go_sem] theorem RfC_s1 (t : List UInt8) : (RfC m s e).setIfInBounds 1 (.string ⟨t.toArray⟩) = RfC m t e := rfl
@[go_sem] theorem RfC_s1e : (RfC m s e).setIfInBounds 1 (.string ⟨#[]⟩) = RfC m [] e := rfl
@[go_sem] theorem RfC_s2 (j : Int) : (RfC m s e).setIfInBounds 2 (.int .i64 j) = RfC m s j := rfl
@[go_sem] theorem RfC_fold : (#[.int .i64 m, .string ⟨s.toArray⟩, .int .i64 e] : Array Value) = RfC m s e := rfl
@[go_sem] theorem RfC_folde : (#[.int .i64 m, .string ⟨#[]⟩, .int .i64 e] : Array Value) = RfC m [] e := rfl
@[go_sem] theorem RfC_foldb : (#[.int .i64 m, .string ByteArray.empty, .int .i64 e] : Array Value) = RfC m [] e := rfl
end
/-- The document's framer at g. -/
def RF (w : World) (g : Nat) (m : Int) (s : List UInt8) (e : Int) : Prop := w.heap[g]? = some (.cells (RfC m s e) 45 (0, 0))
section
variable {w w' : World} {g : Nat} {m E : Int} {s : List UInt8}
theorem RF.below (h : RF w g m s E) (hb : Below w.heap.size w w') : RF w' g m s E := (hb.block g (Array.getElem?_eq_some_iff.1 h).1).trans h
theorem RF.lt (h : RF w g m s E) : g < w.heap.size := (Array.getElem?_eq_some_iff.1 h).1
theorem RF.set (h : RF w g m s E) (s' : List UInt8) (E' : Int) : RF (w.setRow g (RfC m s' E')) g m s' E' := setRow_heap w g _ _ _ _ h
theorem RF.setP (h : RF w g m s E) {gp : Nat} {cs cs' : Array Value} {t : TypeId} (hg : w.heap[gp]? = some (.cells cs t (0, 0))) (ht : t ≠ 45) : RF (w.setRow gp cs') g m s E := by
  refine (setRow_other w gp g cs' ?_).trans h
  rintro rfl
  unfold RF at h
  rw [h] at hg
  injection hg with hg
  injection hg with _ h4 _
  exact ht h4.symm
/-- What a call on the program's framer leaves: this one. -/
theorem RF.keep {B : Nat} {gf : Nat} {o : Option Nat} {mf : Int} {b : List UInt8} {f : Int} (h : RF w g m s E) (hF : Fr B w gf o mf b f) (hd : Fd w w' gf o) : RF w' g m s E := hF.other hd h (by decide) (by decide)
theorem Fr.keepR {B : Nat} {gf : Nat} {o : Option Nat} {mf : Int} {b : List UInt8} {f : Int} (hF : Fr B w gf o mf b f) (h : RF w g m s E) (hd : Fd w w' g none) : Fr B w' gf o mf b f := by
  have hgg : gf ≠ g := by
    rintro rfl
    obtain ⟨cs2, h3⟩ := hF.gT
    unfold RF at h
    rw [h] at h3
    injection h3 with h3
    injection h3 with _ h4 _
    exact absurd h4 (by decide)
  have hog : ∀ d, o = some d → d ≠ g := by
    rintro d e rfl
    obtain ⟨_, cs2, h3⟩ := hF.oT d e
    unfold RF at h
    rw [h] at h3
    injection h3 with h3
    injection h3 with _ h4 _
    exact absurd h4 (by decide)
  obtain ⟨A, n, c, q, L, h1, h2, h3, h4⟩ := hF
  refine ⟨A, n, c, q, L, ⟨(hd.block gf h1.lt hgg (by simp)).trans h1.heap, h1.base, ⟨h1.own.1, ?_⟩, h1.le, h1.lo, h1.hi⟩, h2, h3, h4⟩
  rcases h1.own.2 with h5 | ⟨d, cap, cur, e2, h5, h6, h7⟩
  · exact Or.inl h5
  · have h8 : o = some d := by rw [← h4, e2]; rfl
    exact Or.inr ⟨d, cap, cur, e2, h5, (hd.block d (Array.getElem?_eq_some_iff.1 h6).1 (hog d h8) (by simp)).trans h6, h7⟩
theorem rfNew (w : World) (m : Int) (h0 : 16 ≤ m) (h1 : m ≤ 65536) : Calls Tryz.prog 7 #[.int .i64 m] w fun e w' => ∃ g, e = .returned (.pointer (some ⟨g, 0, none⟩)) ∧ Below w.heap.size w w' ∧ w.heap.size ≤ g ∧ RF w' g m [] 0 := by
  have d1 : decide (m < 16) = false := by simp; omega
  have d2 : decide (65536 < m) = false := by simp; omega
  go_enter Tryz.func7, Tryz.ntmps7
  go_wp2_with fail
  go_ret
  exact ⟨_, rfl, (Below.refl _ _).alloc (Nat.le_refl _) _, Nat.le_refl _, heap_alloc_new w _⟩
theorem rfNone (w : World) (m : Int) (h : m < 16 ∨ 65536 < m) : Calls Tryz.prog 7 #[.int .i64 m] w fun e w' => e = .returned (.pointer none) ∧ w' = w := by
  rcases h with h | h
  · have d1 : decide (m < 16) = true := by simpa using h
    go_enter Tryz.func7, Tryz.ntmps7
    go_wp2_with fail
    go_ret
    exact ⟨rfl, rfl⟩
  · have d1 : decide (m < 16) = false := by simp; omega
    have d2 : decide (65536 < m) = true := by simpa using h
    go_enter Tryz.func7, Tryz.ntmps7
    go_wp2_with fail
    go_ret
    exact ⟨rfl, rfl⟩
theorem rfPush (h : RF w g m s 0) (t : List UInt8) (ht : s.length + t.length ≤ 900000000) :
    Calls Tryz.prog 9 #[.pointer (some ⟨g, 0, none⟩), .string ⟨t.toArray⟩] w fun e w' => e = .returned (.tuple #[]) ∧ RF w' g m (s ++ t) 0 ∧ Fd w w' g none := by
  obtain ⟨b1, b2, b3, b4, b5⟩ := blk_row h
  have hadd := fun W => add_str (P := Tryz.prog) W s t (by omega)
  have H := Lib.hid (h.set (s ++ t) 0)
  have HD : Hid (Fd w (w.setRow g (RfC m (s ++ t) 0)) g none) := (Fd.refl _ _ _).set _
  clear h
  go_enter Tryz.func9, Tryz.ntmps9
  go_wp2_with fail
  go_end0
  exact ⟨rfl, H.out, HD.out⟩
theorem rfPushE (h : RF w g m s E) (hf : E ≠ 0) (t : List UInt8) :
    Calls Tryz.prog 9 #[.pointer (some ⟨g, 0, none⟩), .string ⟨t.toArray⟩] w fun e w' => e = .returned (.tuple #[]) ∧ w' = w := by
  obtain ⟨b1, b2, b3, b4, b5⟩ := blk_row h
  have hf2 : (E == 0) = false := by simpa using hf
  clear h hf
  go_enter Tryz.func9, Tryz.ntmps9
  go_wp2_with fail
  go_end0
  exact ⟨rfl, rfl⟩
set_option maxHeartbeats 1000000 in
theorem rfFails (h : RF w g m s E) (e : Int) :
    Calls Tryz.prog 21 #[.pointer (some ⟨g, 0, none⟩), .int .i64 e] w fun r w' => r = .returned (.tuple #[.agg (PkC zPk none 0 0), .bool false, .int .i64 e]) ∧ RF w' g m [] e ∧ Fd w w' g none := by
  have hgl := h.lt
  have hne : ¬ w.heap.size = g := by omega
  have hne2 : ¬ g = w.heap.size := by omega
  have h1 := h.set s e
  have h2 := h.set [] e
  have hba := (Below.refl (w.setRow g (RfC m [] e)).heap.size (w.setRow g (RfC m [] e))).alloc (Nat.le_refl _) (.cells (PkC zPk none 0 0) 36)
  have H := Lib.hid (h2.below hba)
  have HD := Lib.hid (((Fd.refl w g none).set (RfC m [] e)).more hba)
  obtain ⟨b1, b2, b3, b4, b5⟩ := blk_row h
  obtain ⟨c1, c2, c3, c4, c5⟩ := blk_row h1
  clear h h1 h2 hba
  go_enter Tryz.func21, Tryz.ntmps21
  go_wp2_with fail
  refine ret_pk3 4 5 6 w.heap.size zPk none 0 0 (.bool false) (.int .i64 e) rfl rfl (rowAt_alloc_at _ _ _ (by simp)) rfl rfl rfl ?_
  exact ⟨rfl, H.out, HD.out⟩
end
end Go.Proofs.YtnaedcennichlaaGreatDoor
