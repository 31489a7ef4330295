/-
  The document's own guess at a packet: the fields that it takes.
-/
import Derived.Test.YtnaedcennichlaaGreatDoorFrAllM
import Derived.Test.YtnaedcennichlaaGreatDoorTextRefs
set_option linter.unusedSimpArgs false
set_option linter.unusedVariables false
namespace Go.Proofs.YtnaedcennichlaaGreatDoor
open Go.RowKit
set_option maxRecDepth 100000
/-- The one cell of what is left. -/
def FlC (l : List UInt8) : Array Value := #[.string ⟨l.toArray⟩]
section
variable {l x : List UInt8}
@[go_sem, simp] theorem FlC_size : (FlC l).size = 1 := rfl
@[go_sem] theorem FlC_one : ones (FlC l) = true := by simp [ones, FlC, Value.oneCell']
@[go_sem] theorem FlC_ne : (FlC l = #[]) = False := by simp [FlC]
@[go_sem high] theorem FlC_0 : (FlC l)[0]? = some (.string ⟨l.toArray⟩) := rfl
@[go_sem] theorem FlC_g0 (h : 0 < (FlC l).size) : (FlC l)[0]'h = .string ⟨l.toArray⟩ := rfl
@[go_sem] theorem FlC_s0 : (FlC l).setIfInBounds 0 (.string ⟨x.toArray⟩) = FlC x := rfl
@[go_sem] theorem foldl_FlC : Array.foldl (fun (cs : Array Value) (x : Value × Nat) => cs.setIfInBounds x.snd x.fst) (FlC l) (FlC x).zipIdx 0 1 = FlC x := by simp [FlC]
end
/-- What is left behind a word, or behind data. -/
def gwL : List UInt8 → List UInt8
  | _ :: _ :: r => r
  | l => l
def gdV (l : List UInt8) : List UInt8 := (getD l).1
def gdL (l : List UInt8) : List UInt8 := l.drop (getD l).2.1.toNat
section
variable {w0 w : World} {g : Nat} {l : List UInt8} {L : List (Nat × Array Value × TypeId)}
theorem fpByte (h : Kp w0 ((g, FlC l, 82) :: L) w) (hne : ∀ x ∈ L, x.1 ≠ g) (hl : l.length ≤ 1000000000) :
    Calls Tryz.prog 38 #[.pointer (some ⟨g, 0, none⟩)] w fun e w' => e = .returned (.int .i64 (byV l)) ∧ Kp w0 ((g, FlC l.tail, 82) :: L) w' := by
  cases l with
  | nil =>
    have hK := h
    have a1r := h.row; have a1f := h.free; have a1c := h.cell; have a1l := h.lt; have a1z := h.froz
    clear h
    go_enter Tryz.func38, Tryz.ntmps38
    go_wp2_with fail
    go_ret
    exact ⟨rfl, hK⟩
  | cons b r =>
    have hfin : Kp w0 ((g, FlC r, 82) :: L) (w.setRow g (FlC r)) := h.set hne _
    obtain ⟨S, hS⟩ : ∃ S, S = b :: r := ⟨_, rfl⟩
    have h1l : 1 ≤ S.length := by rw [hS]; simp
    have h1i : (1 : Int) ≤ (S.length : Int) := by omega
    have hbb := b.toNat_lt
    have hA : ∀ h0 : 0 < (ByteArray.mk S.toArray).size, (ByteArray.mk S.toArray)[0]'h0 = b := by intro h0; subst hS; rfl
    have hT : S.tail = r := by rw [hS]; rfl
    have hSb : (S == []) = false := by rw [hS]; rfl
    have hSn : S.length ≤ 1000000000 := by rw [hS]; exact hl
    have HT := Lib.hid hT
    rw [← hS] at h
    have hbv : byV (b :: r) = b.toNat := rfl
    rw [hbv]
    have hcw : IntKind.i64.wrap (b.toNat : Int) = (b.toNat : Int) := IntWalk.i64_in _ (by omega)
    have a1r := h.row; have a1f := h.free; have a1c := h.cell; have a1l := h.lt; have a1z := h.froz
    clear h hS hbv hT hl
    go_enter Tryz.func38, Tryz.ntmps38
    go_wp2_with fail
    go_ret
    rw [HT.out]
    exact ⟨rfl, hfin⟩
theorem fpWord (h : Kp w0 ((g, FlC l, 82) :: L) w) (hne : ∀ x ∈ L, x.1 ≠ g) (hl : l.length ≤ 1000000000) :
    Calls Tryz.prog 39 #[.pointer (some ⟨g, 0, none⟩)] w fun e w' => e = .returned (.int .i64 (woV l)) ∧ Kp w0 ((g, FlC (gwL l), 82) :: L) w' := by
  have hfin := h.tail
  obtain ⟨x, n, e0, hr⟩ : ∃ x n e0, rwR l = (x, n, e0) := ⟨_, _, _, rfl⟩
  have hf : x = woV l ∧ ∃ k : Nat, n = k ∧ k ≤ l.length ∧ l.drop k = gwL l := by
    rcases l with _ | ⟨a, _ | ⟨b, r⟩⟩
    · simp [rwR] at hr
      obtain ⟨rfl, rfl, _⟩ := hr
      exact ⟨rfl, 0, rfl, by simp, rfl⟩
    · simp [rwR] at hr
      obtain ⟨rfl, rfl, _⟩ := hr
      exact ⟨rfl, 0, rfl, by simp, rfl⟩
    · simp [rwR] at hr
      obtain ⟨rfl, rfl, _⟩ := hr
      refine ⟨?_, 2, rfl, by simp, rfl⟩
      simp [woV]
  obtain ⟨rfl, k, rfl, hk, hd⟩ := hf
  have HR := Lib.hid hr
  have HD := Lib.hid hd
  have k0 : (0 : Int) ≤ (k : Int) := by omega
  have k1 : (k : Int) ≤ (l.length : Int) := by omega
  have hK0 := Lib.hid h
  have a1r := h.row; have a1f := h.free; have a1c := h.cell; have a1l := h.lt; have a1z := h.froz
  clear h hr hd hfin
  go_enter Tryz.func39, Tryz.ntmps39
  go_wp2_with fail
  refine (refReadWord_eq l (woV l) k e0 _ (by omega) HR.out).mono ?_
  rintro e w1 ⟨rfl, hb1⟩
  have hK1 := hK0.out.more hb1
  have hfin := Lib.hid (hK1.set hne (FlC (gwL l)))
  clear a1r a1f a1c a1l a1z
  have a1r := hK1.row; have a1f := hK1.free; have a1c := hK1.cell; have a1l := hK1.lt; have a1z := hK1.froz
  clear hb1 hK1
  go_wp2_with fail
  go_ret
  rw [HD.out]
  exact ⟨rfl, hfin.out⟩
theorem getD_le (l : List UInt8) : 0 ≤ (getD l).2.1 ∧ (getD l).2.1 ≤ l.length := by
  rcases l with _ | ⟨a, _ | ⟨b, r⟩⟩
  · simp [getD]
  · simp [getD]
  · simp only [getD]
    split
    · simp
      omega
    · rename_i h
      simp only [List.length_cons]
      omega
theorem fpData (h : Kp w0 ((g, FlC l, 82) :: L) w) (hne : ∀ x ∈ L, x.1 ≠ g) (hl : l.length ≤ 1000000000) :
    Calls Tryz.prog 37 #[.pointer (some ⟨g, 0, none⟩)] w fun e w' => e = .returned (.string ⟨(gdV l).toArray⟩) ∧ Kp w0 ((g, FlC (gdL l), 82) :: L) w' := by
  obtain ⟨x, n, e0, hr⟩ : ∃ x n e0, getD l = (x, n, e0) := ⟨_, _, _, rfl⟩
  have hle := getD_le l
  have h1 : gdV l = x := by unfold gdV; rw [hr]
  have h2 : gdL l = l.drop n.toNat := by unfold gdL; rw [hr]
  rw [hr] at hle
  dsimp only at hle
  obtain ⟨k, rfl⟩ : ∃ k : Nat, n = k := ⟨n.toNat, by omega⟩
  rw [Int.toNat_natCast] at h2
  rw [h1, h2]
  have HR := Lib.hid hr
  have hkl : k ≤ l.length := by omega
  have k0 : (0 : Int) ≤ (k : Int) := by omega
  have k1 : (k : Int) ≤ (l.length : Int) := by omega
  have hK0 := Lib.hid h
  have a1r := h.row; have a1f := h.free; have a1c := h.cell; have a1l := h.lt; have a1z := h.froz
  clear h hr h1 h2 hle
  go_enter Tryz.func37, Tryz.ntmps37
  go_wp2_with fail
  refine (refGetData_eq l x k e0 _ hl HR.out).mono ?_
  rintro e w1 ⟨rfl, hb1⟩
  have hK1 := hK0.out.more hb1
  have hfin := Lib.hid (hK1.set hne (FlC (l.drop k)))
  clear a1r a1f a1c a1l a1z
  have a1r := hK1.row; have a1f := hK1.free; have a1c := hK1.cell; have a1l := hK1.lt; have a1z := hK1.froz
  clear hb1 hK1
  go_wp2_with fail
  go_ret
  exact ⟨rfl, hfin.out⟩
end
end Go.Proofs.YtnaedcennichlaaGreatDoor
