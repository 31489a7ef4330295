/-
  The document's own Decode.
-/
import Derived.Test.YtnaedcennichlaaGreatDoorFpDec
import Derived.Deep.RegionHeld3
import Derived.StillTailTactics
import Derived.Deep.Cut
import Derived.Deep.DeepCutAuto
set_option linter.unusedSimpArgs false
set_option linter.unusedVariables false
namespace Go.Proofs.YtnaedcennichlaaGreatDoor
section
open Go.RowKit
def oFpDec21 : Oper := ({ dst := some 70, op := Go.Op.load 36 (Go.Operand.tmp 10), type := 36, pos := "ref.go:123", after := #[], guard := none } : Oper)
def oFpDec22 : Oper := ({ dst := some 71, op := Go.Op.call { callee := Go.Callee.value (Go.Operand.func 29), args := #[Go.Operand.tmp 70], argTypes := #[36] }, type := 4, pos := "ref.go:123", after := #[{ on := 0, ground := Go.Ground.data }], guard := none } : Oper)
def oFpDec23 : Oper := ({ dst := some 72, op := Go.Op.unOp Go.UnOp.not 4 (Go.Operand.tmp 71), type := 4, pos := "ref.go:123", after := #[{ on := 1, ground := Go.Ground.data }], guard := none } : Oper)
def oFpDec24 : Oper := ({ dst := some 73, op := Go.Op.move (Go.Operand.tmp 72), type := 4, pos := "ref.go:123", after := #[{ on := 2, ground := Go.Ground.data }, { on := 1, ground := Go.Ground.chain }], guard := none } : Oper)
def oFpDec25 : Oper := ({ dst := some 74, op := Go.Op.load 36 (Go.Operand.tmp 10), type := 36, pos := "ref.go:123", after := #[{ on := 3, ground := Go.Ground.guard }], guard := some (3, false) } : Oper)
def oFpDec26 : Oper := ({ dst := some 75, op := Go.Op.call { callee := Go.Callee.value (Go.Operand.func 27), args := #[Go.Operand.tmp 74], argTypes := #[36] }, type := 3, pos := "ref.go:123", after := #[{ on := 4, ground := Go.Ground.data }, { on := 3, ground := Go.Ground.chain }, { on := 3, ground := Go.Ground.guard }], guard := some (3, false) } : Oper)
def oFpDec27 : Oper := ({ dst := some 76, op := Go.Op.move (Go.Operand.tmp 0), type := 9, pos := "ref.go:123", after := #[{ on := 3, ground := Go.Ground.guard }], guard := some (3, false) } : Oper)
def oFpDec28 : Oper := ({ dst := some 77, op := Go.Op.index 9 (Go.Operand.tmp 76) (Go.Operand.const (Go.Value.int Go.IntKind.i64 0)), type := 5, pos := "ref.go:123", after := #[{ on := 6, ground := Go.Ground.data }, { on := 3, ground := Go.Ground.guard }], guard := some (3, false) } : Oper)
def oFpDec29 : Oper := ({ dst := some 78, op := Go.Op.convert 5 3 (Go.Operand.tmp 77), type := 3, pos := "ref.go:123", after := #[{ on := 7, ground := Go.Ground.data }, { on := 3, ground := Go.Ground.guard }], guard := some (3, false) } : Oper)
def oFpDec210 : Oper := ({ dst := some 79, op := Go.Op.binOp Go.BinOp.neq 3 (Go.Operand.tmp 75) (Go.Operand.tmp 78) 3, type := 4, pos := "ref.go:123", after := #[{ on := 5, ground := Go.Ground.data }, { on := 8, ground := Go.Ground.data }, { on := 3, ground := Go.Ground.guard }], guard := some (3, false) } : Oper)
def oFpDec211 : Oper := ({ dst := some 80, op := Go.Op.pick (Go.Operand.tmp 73) (Go.Operand.const (Go.Value.bool true)) (Go.Operand.tmp 79), type := 4, pos := "ref.go:123", after := #[{ on := 3, ground := Go.Ground.data }, { on := 9, ground := Go.Ground.data }], guard := none } : Oper)
def oFpDec212 : Oper := ({ dst := some 81, op := Go.Op.move (Go.Operand.tmp 80), type := 4, pos := "ref.go:123", after := #[{ on := 10, ground := Go.Ground.data }, { on := 5, ground := Go.Ground.chain }], guard := none } : Oper)
def oFpDec213 : Oper := ({ dst := some 82, op := Go.Op.load 36 (Go.Operand.tmp 10), type := 36, pos := "ref.go:123", after := #[{ on := 11, ground := Go.Ground.guard }], guard := some (11, false) } : Oper)
def oFpDec214 : Oper := ({ dst := some 83, op := Go.Op.call { callee := Go.Callee.value (Go.Operand.func 30), args := #[Go.Operand.tmp 82], argTypes := #[36] }, type := 9, pos := "ref.go:123", after := #[{ on := 12, ground := Go.Ground.data }, { on := 11, ground := Go.Ground.chain }, { on := 11, ground := Go.Ground.guard }], guard := some (11, false) } : Oper)
def oFpDec215 : Oper := ({ dst := some 84, op := Go.Op.move (Go.Operand.tmp 9), type := 9, pos := "ref.go:123", after := #[{ on := 11, ground := Go.Ground.guard }], guard := some (11, false) } : Oper)
def oFpDec216 : Oper := ({ dst := some 85, op := Go.Op.binOp Go.BinOp.neq 9 (Go.Operand.tmp 83) (Go.Operand.tmp 84) 9, type := 4, pos := "ref.go:123", after := #[{ on := 13, ground := Go.Ground.data }, { on := 14, ground := Go.Ground.data }, { on := 11, ground := Go.Ground.guard }], guard := some (11, false) } : Oper)
def oFpDec217 : Oper := ({ dst := some 86, op := Go.Op.pick (Go.Operand.tmp 81) (Go.Operand.const (Go.Value.bool true)) (Go.Operand.tmp 85), type := 4, pos := "ref.go:123", after := #[{ on := 11, ground := Go.Ground.data }, { on := 15, ground := Go.Ground.data }], guard := none } : Oper)
end
open Go.RowKit
set_option maxRecDepth 100000
/-- A packet that is told, how many bytes, and an error: by the document's own Decode. -/
def GDC (w : World) (P : Pk) (X : List (List UInt8 × Int)) (n er : Int) (e : Ending) (w' : World) : Prop :=
  ∃ A c, e = .returned (.tuple #[.agg (PkC P A X.length c), .int .i64 n, .int .i64 er]) ∧ Below w.heap.size w w' ∧ Subs w' A X.length X ∧ (A = none → c = 0) ∧ (0 < X.length → ∀ b o, A = some ⟨b, o, none⟩ → w.heap.size < b)
theorem gdc_no {w w' : World} {P : Pk} {n er : Int} (hb : Below w.heap.size w w') : GDC w P [] n er (.returned (.tuple #[.agg (PkC P none 0 0), .int .i64 n, .int .i64 er])) w' := ⟨none, 0, rfl, hb, Subs.nil _, fun _ => rfl, fun hn => absurd hn (Nat.lt_irrefl 0)⟩
theorem refReadLen_eq (l : List UInt8) (n u e : Int) (w : World) (hl : l.length ≤ 1000000000) (h : rdR l = (n, u, e)) :
    Calls Tryz.prog 19 #[.string ⟨l.toArray⟩] w fun e' w' => e' = .returned (.tuple #[.int .i64 n, .int .i64 u, .int .i64 e]) ∧ Below w.heap.size w w' := by
  have := refReadLen_any l w (by omega)
  rw [h] at this
  exact this
theorem refFirst5_eq (c : Int) (b : Bool) (w : World) (h0 : 0 ≤ c) (h1 : c ≤ 255) (h : firB c = b) :
    Calls Tryz.prog 20 #[.int .u8 c] w fun e w' => e = .returned (.bool b) ∧ Below w.heap.size w w' := h ▸ refFirst5_any c w h0 h1
theorem refDecode_nil (w : World) :
    Calls Tryz.prog 22 #[.string ⟨([] : List UInt8).toArray⟩] w fun e w' => GDC w zPk [] 0 2 e w' := by
  have hK0 := ((Kp.nil w).new (PkC zPk none 0 0) 36)
  go_enter Tryz.func22, Tryz.ntmps22
  go_wp2_with fail
  refine ret_pk3 2 3 4 w.heap.size zPk none 0 0 (.int .i64 0) (.int .i64 2) rfl rfl (by go_simp <;> rfl) rfl rfl rfl ?_
  exact gdc_no hK0.below
set_option maxHeartbeats 1000000 in
theorem refDecode_first (b : UInt8) (r : List UInt8) (w : World) (hf : firB b.toNat = false) :
    Calls Tryz.prog 22 #[.string ⟨(b :: r).toArray⟩] w fun e w' => GDC w zPk [] 0 4 e w' := by
  have hbb := b.toNat_lt
  obtain ⟨S, hS⟩ : ∃ S, S = b :: r := ⟨_, rfl⟩
  have hA : ∀ h0 : 0 < (ByteArray.mk S.toArray).size, (ByteArray.mk S.toArray)[0]'h0 = b := by intro h0; subst hS; rfl
  have hSb : (S == []) = false := by rw [hS]; rfl
  have h1l : 1 ≤ S.length := by rw [hS]; simp
  have hK0 := ((Kp.nil w).new (PkC zPk none 0 0) 36)
  rw [← hS]
  clear hS
  go_enter Tryz.func22, Tryz.ntmps22
  go_wp2_with fail
  refine (refFirst5_eq b.toNat false _ (by omega) (by omega) hf).mono ?_
  rintro e w1 ⟨rfl, hb1⟩
  have hK1 := hK0.more hb1
  clear hK0 hb1
  have a1r := hK1.row; have a1f := hK1.free; have a1c := hK1.cell; have a1l := hK1.lt; have a1z := hK1.froz
  go_wp2_with fail
  refine ret_pk3 2 3 4 w.heap.size zPk none 0 0 (.int .i64 0) (.int .i64 4) rfl rfl (by go_simp <;> rfl) rfl rfl rfl ?_
  exact gdc_no (hK1.set (by simp) _).below
set_option maxHeartbeats 1000000 in
theorem refDecode_len (b : UInt8) (r : List UInt8) (n u er : Int) (w : World) (hf : firB b.toNat = true) (hl : r.length ≤ 40000) (hr : rdR r = (n, u, er)) (he : er = 2 ∨ er = 4) :
    Calls Tryz.prog 22 #[.string ⟨(b :: r).toArray⟩] w fun e w' => GDC w zPk [] 0 er e w' := by
  have hbb := b.toNat_lt
  obtain ⟨S, hS⟩ : ∃ S, S = b :: r := ⟨_, rfl⟩
  have hA : ∀ h0 : 0 < (ByteArray.mk S.toArray).size, (ByteArray.mk S.toArray)[0]'h0 = b := by intro h0; subst hS; rfl
  have hSb : (S == []) = false := by rw [hS]; rfl
  have h1l : 1 ≤ S.length := by rw [hS]; simp
  have hSl : S.length ≤ r.length + 1 := by rw [hS]; simp
  have hSm : r.length + 1 ≤ S.length := by rw [hS]; simp
  have hT : S.tail = r := by rw [hS]; rfl
  have h1i : (1 : Int) ≤ (S.length : Int) := by omega
  have hK0 := ((Kp.nil w).new (PkC zPk none 0 0) 36)
  have HR := Lib.hid hr
  have hb0 : (er != 0) = true := by rcases he with rfl | rfl <;> rfl
  have hwe : IntKind.i64.wrap er = er := IntWalk.i64_in _ (by omega)
  rw [← hS]
  clear hS hr he
  go_enter Tryz.func22, Tryz.ntmps22
  go_wp2_with fail
  refine (refFirst5_eq b.toNat true _ (by omega) (by omega) hf).mono ?_
  rintro e w1 ⟨rfl, hb1⟩
  have hK1 := hK0.more hb1
  clear hK0 hb1
  go_wp2_with fail
  refine (refReadLen_eq r n u er _ (by omega) HR.out).mono ?_
  rintro e w2 ⟨rfl, hb2⟩
  have hK2 := hK1.more hb2
  clear hK1 hb2
  have a1r := hK2.row; have a1f := hK2.free; have a1c := hK2.cell; have a1l := hK2.lt; have a1z := hK2.froz
  go_wp2_with fail
  refine ret_pk3 2 3 4 w.heap.size zPk none 0 0 (.int .i64 0) (.int .i64 er) rfl rfl (by go_simp <;> rfl) rfl rfl rfl ?_
  exact gdc_no (hK2.set (by simp) _).below
set_option maxHeartbeats 1000000 in
theorem refDecode_short (b : UInt8) (r : List UInt8) (m U : Nat) (w : World) (hf : firB b.toNat = true) (hl : r.length ≤ 40000) (hr : rdR r = ((m : Int), (U : Int), 0)) (hm : m ≤ 268435455) (hu : U ≤ r.length) (hs : r.length < U + m) :
    Calls Tryz.prog 22 #[.string ⟨(b :: r).toArray⟩] w fun e w' => GDC w zPk [] 0 2 e w' := by
  have hbb := b.toNat_lt
  obtain ⟨S, hS⟩ : ∃ S, S = b :: r := ⟨_, rfl⟩
  have hA : ∀ h0 : 0 < (ByteArray.mk S.toArray).size, (ByteArray.mk S.toArray)[0]'h0 = b := by intro h0; subst hS; rfl
  have hSb : (S == []) = false := by rw [hS]; rfl
  have h1l : 1 ≤ S.length := by rw [hS]; simp
  have hSl : S.length ≤ r.length + 1 := by rw [hS]; simp
  have hSm : r.length + 1 ≤ S.length := by rw [hS]; simp
  have hT : S.tail = r := by rw [hS]; rfl
  have h1i : (1 : Int) ≤ (S.length : Int) := by omega
  have hK0 := ((Kp.nil w).new (PkC zPk none 0 0) 36)
  obtain ⟨U1, hU1⟩ : ∃ U1 : Nat, U1 = U + 1 := ⟨_, rfl⟩
  obtain ⟨N, hN⟩ : ∃ N : Nat, N = U1 + m := ⟨_, rfl⟩
  have hUI : (1 : Int) + (U : Int) = (U1 : Int) := by omega
  have hNI : (U1 : Int) + (m : Int) = (N : Int) := by omega
  have hwU : IntKind.i64.wrap (U1 : Int) = (U1 : Int) := IntWalk.i64_in _ (by omega)
  have hwN : IntKind.i64.wrap (N : Int) = (N : Int) := IntWalk.i64_in _ (by omega)
  have hlt : (S.length : Int) < (N : Int) := by omega
  have hlt2 : S.length < N := by omega
  have HR := Lib.hid hr
  rw [← hS]
  clear hS hr hs hN hU1
  go_enter Tryz.func22, Tryz.ntmps22
  go_wp2_with fail
  refine (refFirst5_eq b.toNat true _ (by omega) (by omega) hf).mono ?_
  rintro e w1 ⟨rfl, hb1⟩
  have hK1 := hK0.more hb1
  clear hK0 hb1
  go_wp2_with fail
  refine (refReadLen_eq r m U 0 _ (by omega) HR.out).mono ?_
  rintro e w2 ⟨rfl, hb2⟩
  have hK2 := hK1.more hb2
  clear hK1 hb2
  have a1r := hK2.row; have a1f := hK2.free; have a1c := hK2.cell; have a1l := hK2.lt; have a1z := hK2.froz
  go_wp2_with fail
  refine ret_pk3 2 3 4 w.heap.size zPk none 0 0 (.int .i64 0) (.int .i64 2) rfl rfl (by go_simp <;> rfl) rfl rfl rfl ?_
  exact gdc_no (hK2.set (by simp) _).below
theorem guess_eq (c : Int) (l : List UInt8) (P : Pk) (X : List (List UInt8 × Int)) (w : World) (h0 : 0 ≤ c) (h1 : c ≤ 255) (hl : l.length ≤ 1000000) (ha : 1 ≤ c / 16) (hb : c / 16 ≤ 14) (h : gP c l = (P, X)) :
    Calls Tryz.prog 28 #[.int .u8 c, .string ⟨l.toArray⟩] w fun e w' => GUP w P X e w' := by
  have := guess_any c l w h0 h1 hl ha hb
  rw [h] at this
  exact this
/-- What is held through the last test: the packet that was guessed. -/
def HL (w : World) (h : Nat) (P : Pk) (A : Option Addr) (c : Nat) (XS : List (List UInt8 × Int)) (w' : World) : Prop :=
  Kp w [(h, PkC P A XS.length c, 36), (w.heap.size, PkC zPk none 0 0, 36)] w' ∧ Subs w' A XS.length XS
def HS (w : World) (h : Nat) (P : Pk) (A : Option Addr) (c : Nat) (XS : List (List UInt8 × Int)) (w' : World) : Prop :=
  rowAt w' h = PkC P A XS.length c ∧ freeB w' h = true ∧ (∀ i, w'.cell? ⟨h, i, none⟩ = (PkC P A XS.length c)[i]?) ∧ h < w'.heap.size ∧ (∀ i, w'.frozen? ⟨h, i, none⟩ = false) ∧ HL w h P A c XS w'
theorem HL.hs {w w' : World} {h : Nat} {P : Pk} {A : Option Addr} {c : Nat} {XS : List (List UInt8 × Int)} (k : HL w h P A c XS w') : rowAt w' h = PkC P A XS.length c ∧ freeB w' h = true ∧ (∀ i, w'.cell? ⟨h, i, none⟩ = (PkC P A XS.length c)[i]?) ∧ h < w'.heap.size ∧ (∀ i, w'.frozen? ⟨h, i, none⟩ = false) ∧ HL w h P A c XS w' := ⟨k.1.row, k.1.free, k.1.cell, k.1.lt, k.1.froz, k⟩
theorem HL.more {w w' w'' : World} {h : Nat} {P : Pk} {A : Option Addr} {c : Nat} {XS : List (List UInt8 × Int)} (k : HL w h P A c XS w') (hb : Below w'.heap.size w' w'') : HL w h P A c XS w'' := ⟨k.1.more hb, k.2.below hb⟩
theorem HL.drew {w w' : World} {h : Nat} {P : Pk} {A : Option Addr} {c : Nat} {XS : List (List UInt8 × Int)} (k : HL w h P A c XS w') : HL w h P A c XS w'.drew := ⟨k.1.drew, k.2.below (Below.refl _ _).drew⟩
theorem Subs.setLo {w : World} {A : Option Addr} {n g : Nat} {xs : List (List UInt8 × Int)} (h : Subs w A n xs) (hne : 0 < n → ∀ b o, A = some ⟨b, o, none⟩ → g < b) (cs : Array Value) : Subs (w.setRow g cs) A n xs :=
  ⟨h.1, fun hn => by
    obtain ⟨b, off, e, hlt, hc⟩ := h.2 hn
    have h1 := hne hn b off e
    have hr : rowAt (w.setRow g cs) b = rowAt w b := by unfold rowAt; rw [setRow_other w g b cs (by omega)]
    exact ⟨b, off, e, by simpa using hlt, fun j x hx => by rw [hr]; exact hc j x hx⟩⟩
/-- The test ahead of the guess is false: the ways. -/
def nm6 : List UInt8 := [0, 4, 77, 81, 84, 84]
def T16A (b : UInt8) (_X : List UInt8) (_x : UInt8) : Prop := ((b.toNat : Int) == 16) = false ∧ True ∧ True ∧ True ∧ True
def T16B (b : UInt8) (X : List UInt8) (_x : UInt8) : Prop := ((b.toNat : Int) == 16) = true ∧ ¬ (6 : Int) < (X.length : Int) ∧ True ∧ True ∧ True
def T16C (b : UInt8) (X : List UInt8) (_x : UInt8) : Prop := ((b.toNat : Int) == 16) = true ∧ (6 : Int) < (X.length : Int) ∧ (X.take 6 == [0, 4, 77, 81, 84, 84]) = false ∧ True ∧ True
def T16D (b : UInt8) (X : List UInt8) (x : UInt8) : Prop := ((b.toNat : Int) == 16) = true ∧ (6 : Int) < (X.length : Int) ∧ (X.take 6 == [0, 4, 77, 81, 84, 84]) = true ∧ (∀ h' : 6 < (ByteArray.mk X.toArray).size, (ByteArray.mk X.toArray)[6]'h' = x) ∧ ((x.toNat : Int) == 4) = true
def T16 (b : UInt8) (X : List UInt8) : Prop := ∃ x, T16A b X x ∨ T16B b X x ∨ T16C b X x ∨ T16D b X x
set_option maxHeartbeats 1000000 in
theorem refDecode_yes (b : UInt8) (r X : List UInt8) (m U : Nat) (P : Pk) (XS : List (List UInt8 × Int)) (w : World) (hf : firB b.toNat = true) (hl : r.length ≤ 40000) (hr : rdR r = ((m : Int), (U : Int), 0)) (hm : m ≤ 268435455) (hu : 1 ≤ U) (hs : U + m ≤ r.length)
    (hX : (r.drop U).take m = X) (ht1 : 1 ≤ (b.toNat : Int) / 16) (ht2 : (b.toNat : Int) / 16 ≤ 14) (hP : gP b.toNat X = (P, XS)) (hF : Fit P XS) (h16 : T16 b X) (hR : decide (0 ≤ restN P XS) = true) (hO : Ok P XS) (hv : P.ty * 16 + flagsN P = b.toNat) (hB : bodyL P XS = X) :
    Calls Tryz.prog 22 #[.string ⟨(b :: r).toArray⟩] w fun e w' => GDC w P XS (1 + U + m) 0 e w' := by
  have HF := Lib.hid hF
  have HRR := Lib.hid hR
  have HO := Lib.hid hO
  have HV := Lib.hid hv
  have HB := Lib.hid hB
  clear hF hR hO hv hB
  have hbb := b.toNat_lt
  obtain ⟨S, hS⟩ : ∃ S, S = b :: r := ⟨_, rfl⟩
  have hA : ∀ h0 : 0 < (ByteArray.mk S.toArray).size, (ByteArray.mk S.toArray)[0]'h0 = b := by intro h0; subst hS; rfl
  have hSb : (S == []) = false := by rw [hS]; rfl
  have h1l : 1 ≤ S.length := by rw [hS]; simp
  have hSl : S.length ≤ r.length + 1 := by rw [hS]; simp
  have hSm : r.length + 1 ≤ S.length := by rw [hS]; simp
  have hT : S.tail = r := by rw [hS]; rfl
  have h1i : (1 : Int) ≤ (S.length : Int) := by omega
  have hK0 := ((Kp.nil w).new (PkC zPk none 0 0) 36)
  obtain ⟨U1, hU1⟩ : ∃ U1 : Nat, U1 = U + 1 := ⟨_, rfl⟩
  obtain ⟨N, hN⟩ : ∃ N : Nat, N = U1 + m := ⟨_, rfl⟩
  have hUI : (1 : Int) + (U : Int) = (U1 : Int) := by omega
  have hNI : (U1 : Int) + (m : Int) = (N : Int) := by omega
  have hwU : IntKind.i64.wrap (U1 : Int) = (U1 : Int) := IntWalk.i64_in _ (by omega)
  have hwN : IntKind.i64.wrap (N : Int) = (N : Int) := IntWalk.i64_in _ (by omega)
  have hpost : 1 + (U : Int) + (m : Int) = (N : Int) := by omega
  rw [hpost]
  clear hpost
  have hlt : ¬ (S.length : Int) < (N : Int) := by omega
  have hlt2 : ¬ S.length < N := by omega
  have k0 : (0 : Int) ≤ (U1 : Int) := by omega
  have k1 : (U1 : Int) ≤ (N : Int) := by omega
  have k2 : (N : Int) ≤ (S.length : Int) := by omega
  have k3 : U1 ≤ N := by omega
  have hXX : List.drop U1 (List.take N S) = X := by rw [← hX, hU1, hN, hS, hU1, List.drop_take, show U + 1 + m - (U + 1) = m by omega, List.drop_succ_cons]
  have hXl : X.length ≤ 40000 := by rw [← hX, List.length_take, List.length_drop]; omega
  have HR := Lib.hid hr
  have HP := Lib.hid hP
  have hwb : IntKind.i64.wrap (b.toNat : Int) = (b.toNat : Int) := IntWalk.i64_in _ (by omega)
  rw [← hS]
  clear hS hr hs hN hU1 hX hP
  go_enter Tryz.func22, Tryz.ntmps22
  go_wp2_with fail
  refine (refFirst5_eq b.toNat true _ (by omega) (by omega) hf).mono ?_
  rintro e w1 ⟨rfl, hb1⟩
  have hK1 := hK0.more hb1
  clear hK0 hb1
  go_wp2_with fail
  refine (refReadLen_eq r m U 0 _ (by omega) HR.out).mono ?_
  rintro e w2 ⟨rfl, hb2⟩
  have hK2 := hK1.more hb2
  clear hK1 hb2
  go_upto_region 12 with fail
  go_cut [61] (fun s61 wx => s61 = .bool false ∧ wx = w2)
  case first =>
    obtain ⟨x6, h16⟩ := h16
    rcases h16 with h16 | h16 | h16 | h16 <;> obtain ⟨hz1, hz2, hz3, hz4, hz5⟩ := h16
    all_goals
      go_wp2_with fail
      go_meet
      case rel => exact ⟨by first | rfl | (rw [bne, hz5]; rfl), rfl⟩
  obtain ⟨rfl, rfl⟩ := hcut
  clear h16
  go_wp2_with fail
  refine (guess_eq b.toNat X P XS _ (by omega) (by omega) (by omega) ht1 ht2 HP.out).mono ?_
  rintro e w3 ⟨A, c, rfl, hb3, hS3, hc3, hlo3⟩
  have HLO : Hid (0 < XS.length → ∀ b o, A = some ⟨b, o, none⟩ → w.heap.size < b) := by intro hn b o e; have h1 := hlo3 hn b o e; have h2 := hK2.lt; omega
  clear hlo3
  have hK3 := hK2.more hb3
  clear hK2
  have HC := Lib.hid hc3
  clear hc3
  go_wp2_with fail
  have hK4 := (hK3.new (PkC P A XS.length c) 36)
  have hS4 := hS3.below ((Below.refl w3.heap.size w3).alloc (Nat.le_refl _) (.cells (PkC P A XS.length c) 36))
  obtain ⟨h4, hh4⟩ : ∃ h4, h4 = w3.heap.size := ⟨_, rfl⟩
  obtain ⟨w4, hw4⟩ : ∃ w4, w4 = w3.alloc (.cells (PkC P A XS.length c) 36) := ⟨_, rfl⟩
  have HH : HL w h4 P A c XS w4 := by rw [hh4, hw4]; exact ⟨hK4, hS4⟩
  have HLT : Hid (w.heap.size < h4) := by have := hK3.lt; show w.heap.size < h4; omega
  rw [← hh4, ← hw4]
  clear hh4 hw4 hK3 hK4 hS3 hS4
  go_region_held3 (fun w' => rowAt w' h4 = PkC P A XS.length c ∧ freeB w' h4 = true ∧ (∀ i, w'.cell? ⟨h4, i, none⟩ = (PkC P A XS.length c)[i]?) ∧ h4 < w'.heap.size ∧ (∀ i, w'.frozen? ⟨h4, i, none⟩ = false) ∧ HL w h4 P A c XS w')
    (first
      | exact HH.drew.hs
      | (go_split_ands; exact (HL.more ‹_› hb6).hs)
      | (go_split_ands; exact (HL.hs ‹_›)))
    (first
      | (go_at_call 29; refine (refRightW_eq P A XS.length c XS true _ (by go_split_ands; exact (‹HL _ _ _ _ _ _ _›).2) HF.out HRR.out).mono ?_; rintro e w6 ⟨rfl, hb6⟩)
      | (go_at_call 27; refine (refFirst_eq P A XS.length c XS b.toNat HF.out HO.out HV.out).mono ?_; rintro e w6 ⟨rfl, hb6⟩)
      | (go_at_call 30; refine (refRestW_eq P A XS.length c XS X (by go_split_ands; exact (‹HL _ _ _ _ _ _ _›).2) HF.out HO.out HB.out).mono ?_; rintro e w6 ⟨rfl, hb6⟩))
  all_goals
    obtain ⟨_, _, _, _, _, q6⟩ := ‹_ ∧ freeB _ h4 = true ∧ _ ∧ _ ∧ _ ∧ HL w h4 P A c XS _›
    have K9 := q6.1.swap
    have HS9 := Lib.hid q6.2
    have a1r := K9.row; have a1f := K9.free; have a1c := K9.cell; have a1l := K9.lt; have a1z := K9.froz
    have a2r := K9.tail.row; have a2f := K9.tail.free; have a2c := K9.tail.cell; have a2l := K9.tail.lt; have a2z := K9.tail.froz
    go_wp2_with fail
    refine ret_pk3 2 3 4 w.heap.size P A XS.length c (.int .i64 N) (.int .i64 0) rfl rfl (by go_simp <;> rfl) rfl rfl rfl ?_
    exact ⟨A, c, rfl, (K9.set (by intro z hz; simp at hz; subst hz; have := HLT.out; dsimp only; omega) _).below, HS9.out.setLo HLO.out _, HC.out, HLO.out⟩
set_option maxHeartbeats 1000000 in
theorem refDecode_no1 (b : UInt8) (r X : List UInt8) (m U : Nat) (P : Pk) (XS : List (List UInt8 × Int)) (w : World) (hf : firB b.toNat = true) (hl : r.length ≤ 40000) (hr : rdR r = ((m : Int), (U : Int), 0)) (hm : m ≤ 268435455) (hu : 1 ≤ U) (hs : U + m ≤ r.length)
    (hX : (r.drop U).take m = X) (ht1 : 1 ≤ (b.toNat : Int) / 16) (ht2 : (b.toNat : Int) / 16 ≤ 14) (hP : gP b.toNat X = (P, XS)) (hF : Fit P XS) (h16 : T16 b X) (hR : decide (0 ≤ restN P XS) = false) :
    Calls Tryz.prog 22 #[.string ⟨(b :: r).toArray⟩] w fun e w' => GDC w zPk [] 0 4 e w' := by
  have HF := Lib.hid hF
  have HRR := Lib.hid hR
  clear hF hR
  have hbb := b.toNat_lt
  obtain ⟨S, hS⟩ : ∃ S, S = b :: r := ⟨_, rfl⟩
  have hA : ∀ h0 : 0 < (ByteArray.mk S.toArray).size, (ByteArray.mk S.toArray)[0]'h0 = b := by intro h0; subst hS; rfl
  have hSb : (S == []) = false := by rw [hS]; rfl
  have h1l : 1 ≤ S.length := by rw [hS]; simp
  have hSl : S.length ≤ r.length + 1 := by rw [hS]; simp
  have hSm : r.length + 1 ≤ S.length := by rw [hS]; simp
  have hT : S.tail = r := by rw [hS]; rfl
  have h1i : (1 : Int) ≤ (S.length : Int) := by omega
  have hK0 := ((Kp.nil w).new (PkC zPk none 0 0) 36)
  obtain ⟨U1, hU1⟩ : ∃ U1 : Nat, U1 = U + 1 := ⟨_, rfl⟩
  obtain ⟨N, hN⟩ : ∃ N : Nat, N = U1 + m := ⟨_, rfl⟩
  have hUI : (1 : Int) + (U : Int) = (U1 : Int) := by omega
  have hNI : (U1 : Int) + (m : Int) = (N : Int) := by omega
  have hwU : IntKind.i64.wrap (U1 : Int) = (U1 : Int) := IntWalk.i64_in _ (by omega)
  have hwN : IntKind.i64.wrap (N : Int) = (N : Int) := IntWalk.i64_in _ (by omega)
  have hlt : ¬ (S.length : Int) < (N : Int) := by omega
  have hlt2 : ¬ S.length < N := by omega
  have k0 : (0 : Int) ≤ (U1 : Int) := by omega
  have k1 : (U1 : Int) ≤ (N : Int) := by omega
  have k2 : (N : Int) ≤ (S.length : Int) := by omega
  have k3 : U1 ≤ N := by omega
  have hXX : List.drop U1 (List.take N S) = X := by rw [← hX, hU1, hN, hS, hU1, List.drop_take, show U + 1 + m - (U + 1) = m by omega, List.drop_succ_cons]
  have hXl : X.length ≤ 40000 := by rw [← hX, List.length_take, List.length_drop]; omega
  have HR := Lib.hid hr
  have HP := Lib.hid hP
  have hwb : IntKind.i64.wrap (b.toNat : Int) = (b.toNat : Int) := IntWalk.i64_in _ (by omega)
  rw [← hS]
  clear hS hr hs hN hU1 hX hP
  go_enter Tryz.func22, Tryz.ntmps22
  go_wp2_with fail
  refine (refFirst5_eq b.toNat true _ (by omega) (by omega) hf).mono ?_
  rintro e w1 ⟨rfl, hb1⟩
  have hK1 := hK0.more hb1
  clear hK0 hb1
  go_wp2_with fail
  refine (refReadLen_eq r m U 0 _ (by omega) HR.out).mono ?_
  rintro e w2 ⟨rfl, hb2⟩
  have hK2 := hK1.more hb2
  clear hK1 hb2
  go_upto_region 12 with fail
  go_cut [61] (fun s61 wx => s61 = .bool false ∧ wx = w2)
  case first =>
    obtain ⟨x6, h16⟩ := h16
    rcases h16 with h16 | h16 | h16 | h16 <;> obtain ⟨hz1, hz2, hz3, hz4, hz5⟩ := h16
    all_goals
      go_wp2_with fail
      go_meet
      case rel => exact ⟨by first | rfl | (rw [bne, hz5]; rfl), rfl⟩
  obtain ⟨rfl, rfl⟩ := hcut
  clear h16
  go_wp2_with fail
  refine (guess_eq b.toNat X P XS _ (by omega) (by omega) (by omega) ht1 ht2 HP.out).mono ?_
  rintro e w3 ⟨A, c, rfl, hb3, hS3, hc3, hlo3⟩
  have HLO : Hid (0 < XS.length → ∀ b o, A = some ⟨b, o, none⟩ → w.heap.size < b) := by intro hn b o e; have h1 := hlo3 hn b o e; have h2 := hK2.lt; omega
  clear hlo3
  have hK3 := hK2.more hb3
  clear hK2
  have HC := Lib.hid hc3
  clear hc3
  go_wp2_with fail
  have hK4 := (hK3.new (PkC P A XS.length c) 36)
  have hS4 := hS3.below ((Below.refl w3.heap.size w3).alloc (Nat.le_refl _) (.cells (PkC P A XS.length c) 36))
  obtain ⟨h4, hh4⟩ : ∃ h4, h4 = w3.heap.size := ⟨_, rfl⟩
  obtain ⟨w4, hw4⟩ : ∃ w4, w4 = w3.alloc (.cells (PkC P A XS.length c) 36) := ⟨_, rfl⟩
  have HH : HL w h4 P A c XS w4 := by rw [hh4, hw4]; exact ⟨hK4, hS4⟩
  have HLT : Hid (w.heap.size < h4) := by have := hK3.lt; show w.heap.size < h4; omega
  rw [← hh4, ← hw4]
  clear hh4 hw4 hK3 hK4 hS3 hS4
  refine wp_region_held_drew (S := Kp w [(h4, PkC P A XS.length c, 36), (w.heap.size, PkC zPk none 0 0, 36)]) (by kernel_rfl) HH.drew.1 (fun hHeld => ?_)
  have hHX := HH.drew.2
  obtain ⟨wd, hwd⟩ : ∃ wd : World, wd = w4.drew := ⟨_, rfl⟩
  rw [← hwd] at hHeld hHX ⊢
  clear hwd
  have hSp : 0 < S.length := by omega
  refine tkY 0 oFpDec21 ?vw328 rfl (by kernel_rfl) (by kernel_rfl) (by kernel_rfl) (fun _ _ _ h => h) (by rfl) ?hz328 (by assumption) ?rs328
  case hz328 => (intro wz hSw; unfold oFpDec21; (try have hq1 := hSw.tail.cell); (try have hq2 := hSw.tail.tail.cell); (try have hq3 := hSw.cell); (try have hq4 := hSw.tail.row); (try have hq5 := hSw.tail.tail.row); (try have hq6 := hSw.row); (try have hq7 := hSw.tail.tail.tail.row); (try clear hSw); go_simp; all_goals with_reducible rfl)
  try simp only [oFpDec21, Act.put, sA, sB, sC]
  refine wpAnyH_ready (rs := [1]) (by kernel_rfl) (by simp) ?_
  refine (AllReadyH.cons (o := oFpDec22) rfl (fun K hK => ?_) AllReadyH.nil)
  unfold oFpDec22
  go_simp
  (go_at_call 29; refine (refRightW_eq P A XS.length c XS false _ hHX HF.out HRR.out).mono ?_; rintro e w6 ⟨rfl, hb6⟩; replace hHX := hHX.below hb6)
  refine hK.out _ _ (by first | exact hHeld.more hb6 | exact hHeld | exact ⟨_, hK9⟩ | exact below_more hHeld hb6) (fun hHeld1 => ?_)
  clear hHeld; have hHeld := hHeld1; clear hHeld1 hK K
  try simp only [oFpDec22, Act.put, sA, sB, sC]
  refine tkY 2 oFpDec23 ?vw329 rfl (by kernel_rfl) (by kernel_rfl) (by kernel_rfl) (fun _ _ _ h => h) (by rfl) ?hz329 (by assumption) ?rs329
  case hz329 => (intro wz hSw; unfold oFpDec23; (try clear hSw); go_simp; all_goals with_reducible rfl)
  try simp only [oFpDec23, Act.put, sA, sB, sC]
  refine tkY 3 oFpDec24 ?vw330 rfl (by kernel_rfl) (by kernel_rfl) (by kernel_rfl) (fun _ _ _ h => h) (by rfl) ?hz330 (by assumption) ?rs330
  case hz330 => (intro wz hSw; unfold oFpDec24; (try clear hSw); go_simp; all_goals with_reducible rfl)
  try simp only [oFpDec24, Act.put, sA, sB, sC]
  refine wpAnyH_take (i := 4) (oi := oFpDec25) (v := undef) rfl (by kernel_rfl) (by kernel_rfl) (by kernel_rfl) (fun _ _ _ h => h) (Or.inr ⟨by rfl, rfl⟩) (by assumption) ?rt331
  try simp only [oFpDec25, Act.put, sA, sB, sC]
  refine wpAnyH_take (i := 5) (oi := oFpDec26) (v := undef) rfl (by kernel_rfl) (by kernel_rfl) (by kernel_rfl) (fun _ _ _ h => h) (Or.inr ⟨by rfl, rfl⟩) (by assumption) ?rt332
  try simp only [oFpDec26, Act.put, sA, sB, sC]
  refine wpAnyH_take (i := 6) (oi := oFpDec27) (v := undef) rfl (by kernel_rfl) (by kernel_rfl) (by kernel_rfl) (fun _ _ _ h => h) (Or.inr ⟨by rfl, rfl⟩) (by assumption) ?rt333
  try simp only [oFpDec27, Act.put, sA, sB, sC]
  refine wpAnyH_take (i := 7) (oi := oFpDec28) (v := undef) rfl (by kernel_rfl) (by kernel_rfl) (by kernel_rfl) (fun _ _ _ h => h) (Or.inr ⟨by rfl, rfl⟩) (by assumption) ?rt334
  try simp only [oFpDec28, Act.put, sA, sB, sC]
  refine wpAnyH_take (i := 8) (oi := oFpDec29) (v := undef) rfl (by kernel_rfl) (by kernel_rfl) (by kernel_rfl) (fun _ _ _ h => h) (Or.inr ⟨by rfl, rfl⟩) (by assumption) ?rt335
  try simp only [oFpDec29, Act.put, sA, sB, sC]
  refine wpAnyH_take (i := 9) (oi := oFpDec210) (v := undef) rfl (by kernel_rfl) (by kernel_rfl) (by kernel_rfl) (fun _ _ _ h => h) (Or.inr ⟨by rfl, rfl⟩) (by assumption) ?rt336
  try simp only [oFpDec210, Act.put, sA, sB, sC]
  refine tkY 10 oFpDec211 ?vw337 rfl (by kernel_rfl) (by kernel_rfl) (by kernel_rfl) (fun _ _ _ h => h) (by rfl) ?hz337 (by assumption) ?rs337
  case hz337 => (intro wz hSw; unfold oFpDec211; (try clear hSw); go_simp; all_goals with_reducible rfl)
  try simp only [oFpDec211, Act.put, sA, sB, sC]
  refine tkY 11 oFpDec212 ?vw338 rfl (by kernel_rfl) (by kernel_rfl) (by kernel_rfl) (fun _ _ _ h => h) (by rfl) ?hz338 (by assumption) ?rs338
  case hz338 => (intro wz hSw; unfold oFpDec212; (try clear hSw); go_simp; all_goals with_reducible rfl)
  try simp only [oFpDec212, Act.put, sA, sB, sC]
  refine wpAnyH_take (i := 12) (oi := oFpDec213) (v := undef) rfl (by kernel_rfl) (by kernel_rfl) (by kernel_rfl) (fun _ _ _ h => h) (Or.inr ⟨by rfl, rfl⟩) (by assumption) ?rt339
  try simp only [oFpDec213, Act.put, sA, sB, sC]
  refine wpAnyH_take (i := 13) (oi := oFpDec214) (v := undef) rfl (by kernel_rfl) (by kernel_rfl) (by kernel_rfl) (fun _ _ _ h => h) (Or.inr ⟨by rfl, rfl⟩) (by assumption) ?rt340
  try simp only [oFpDec214, Act.put, sA, sB, sC]
  refine wpAnyH_take (i := 14) (oi := oFpDec215) (v := undef) rfl (by kernel_rfl) (by kernel_rfl) (by kernel_rfl) (fun _ _ _ h => h) (Or.inr ⟨by rfl, rfl⟩) (by assumption) ?rt341
  try simp only [oFpDec215, Act.put, sA, sB, sC]
  refine wpAnyH_take (i := 15) (oi := oFpDec216) (v := undef) rfl (by kernel_rfl) (by kernel_rfl) (by kernel_rfl) (fun _ _ _ h => h) (Or.inr ⟨by rfl, rfl⟩) (by assumption) ?rt342
  try simp only [oFpDec216, Act.put, sA, sB, sC]
  refine tkY 16 oFpDec217 ?vw343 rfl (by kernel_rfl) (by kernel_rfl) (by kernel_rfl) (fun _ _ _ h => h) (by rfl) ?hz343 (by assumption) ?rs343
  case hz343 => (intro wz hSw; unfold oFpDec217; (try clear hSw); go_simp; all_goals with_reducible rfl)
  try simp only [oFpDec217, Act.put, sA, sB, sC]
  refine wpAnyH_done (by kernel_rfl) ?_ _
  have K9 := hHeld.swap
  have a1r := K9.row; have a1f := K9.free; have a1c := K9.cell; have a1l := K9.lt; have a1z := K9.froz
  have a2r := K9.tail.row; have a2f := K9.tail.free; have a2c := K9.tail.cell; have a2l := K9.tail.lt; have a2z := K9.tail.froz
  go_wp2_with fail
  refine ret_pk3 2 3 4 w.heap.size zPk none 0 0 (.int .i64 0) (.int .i64 4) rfl rfl (by go_simp <;> rfl) rfl rfl rfl ?_
  exact gdc_no (K9.set (by intro z hz; simp at hz; subst hz; have := HLT.out; dsimp only; omega) _).below
set_option maxHeartbeats 1000000 in
theorem refDecode_no2 (b : UInt8) (r X : List UInt8) (m U : Nat) (P : Pk) (XS : List (List UInt8 × Int)) (w : World) (hf : firB b.toNat = true) (hl : r.length ≤ 40000) (hr : rdR r = ((m : Int), (U : Int), 0)) (hm : m ≤ 268435455) (hu : 1 ≤ U) (hs : U + m ≤ r.length)
    (hX : (r.drop U).take m = X) (ht1 : 1 ≤ (b.toNat : Int) / 16) (ht2 : (b.toNat : Int) / 16 ≤ 14) (hP : gP b.toNat X = (P, XS)) (hF : Fit P XS) (h16 : T16 b X) (hR : decide (0 ≤ restN P XS) = true) (hO : Ok P XS) (v : Int) (hv : P.ty * 16 + flagsN P = v) (hvb : (v != (b.toNat : Int)) = true) :
    Calls Tryz.prog 22 #[.string ⟨(b :: r).toArray⟩] w fun e w' => GDC w zPk [] 0 4 e w' := by
  have HF := Lib.hid hF
  have HRR := Lib.hid hR
  have HO := Lib.hid hO
  have HV := Lib.hid hv
  clear hF hR hO hv
  have hbb := b.toNat_lt
  obtain ⟨S, hS⟩ : ∃ S, S = b :: r := ⟨_, rfl⟩
  have hA : ∀ h0 : 0 < (ByteArray.mk S.toArray).size, (ByteArray.mk S.toArray)[0]'h0 = b := by intro h0; subst hS; rfl
  have hSb : (S == []) = false := by rw [hS]; rfl
  have h1l : 1 ≤ S.length := by rw [hS]; simp
  have hSl : S.length ≤ r.length + 1 := by rw [hS]; simp
  have hSm : r.length + 1 ≤ S.length := by rw [hS]; simp
  have hT : S.tail = r := by rw [hS]; rfl
  have h1i : (1 : Int) ≤ (S.length : Int) := by omega
  have hK0 := ((Kp.nil w).new (PkC zPk none 0 0) 36)
  obtain ⟨U1, hU1⟩ : ∃ U1 : Nat, U1 = U + 1 := ⟨_, rfl⟩
  obtain ⟨N, hN⟩ : ∃ N : Nat, N = U1 + m := ⟨_, rfl⟩
  have hUI : (1 : Int) + (U : Int) = (U1 : Int) := by omega
  have hNI : (U1 : Int) + (m : Int) = (N : Int) := by omega
  have hwU : IntKind.i64.wrap (U1 : Int) = (U1 : Int) := IntWalk.i64_in _ (by omega)
  have hwN : IntKind.i64.wrap (N : Int) = (N : Int) := IntWalk.i64_in _ (by omega)
  have hlt : ¬ (S.length : Int) < (N : Int) := by omega
  have hlt2 : ¬ S.length < N := by omega
  have k0 : (0 : Int) ≤ (U1 : Int) := by omega
  have k1 : (U1 : Int) ≤ (N : Int) := by omega
  have k2 : (N : Int) ≤ (S.length : Int) := by omega
  have k3 : U1 ≤ N := by omega
  have hXX : List.drop U1 (List.take N S) = X := by rw [← hX, hU1, hN, hS, hU1, List.drop_take, show U + 1 + m - (U + 1) = m by omega, List.drop_succ_cons]
  have hXl : X.length ≤ 40000 := by rw [← hX, List.length_take, List.length_drop]; omega
  have HR := Lib.hid hr
  have HP := Lib.hid hP
  have hwb : IntKind.i64.wrap (b.toNat : Int) = (b.toNat : Int) := IntWalk.i64_in _ (by omega)
  rw [← hS]
  clear hS hr hs hN hU1 hX hP
  go_enter Tryz.func22, Tryz.ntmps22
  go_wp2_with fail
  refine (refFirst5_eq b.toNat true _ (by omega) (by omega) hf).mono ?_
  rintro e w1 ⟨rfl, hb1⟩
  have hK1 := hK0.more hb1
  clear hK0 hb1
  go_wp2_with fail
  refine (refReadLen_eq r m U 0 _ (by omega) HR.out).mono ?_
  rintro e w2 ⟨rfl, hb2⟩
  have hK2 := hK1.more hb2
  clear hK1 hb2
  go_upto_region 12 with fail
  go_cut [61] (fun s61 wx => s61 = .bool false ∧ wx = w2)
  case first =>
    obtain ⟨x6, h16⟩ := h16
    rcases h16 with h16 | h16 | h16 | h16 <;> obtain ⟨hz1, hz2, hz3, hz4, hz5⟩ := h16
    all_goals
      go_wp2_with fail
      go_meet
      case rel => exact ⟨by first | rfl | (rw [bne, hz5]; rfl), rfl⟩
  obtain ⟨rfl, rfl⟩ := hcut
  clear h16
  go_wp2_with fail
  refine (guess_eq b.toNat X P XS _ (by omega) (by omega) (by omega) ht1 ht2 HP.out).mono ?_
  rintro e w3 ⟨A, c, rfl, hb3, hS3, hc3, hlo3⟩
  have HLO : Hid (0 < XS.length → ∀ b o, A = some ⟨b, o, none⟩ → w.heap.size < b) := by intro hn b o e; have h1 := hlo3 hn b o e; have h2 := hK2.lt; omega
  clear hlo3
  have hK3 := hK2.more hb3
  clear hK2
  have HC := Lib.hid hc3
  clear hc3
  go_wp2_with fail
  have hK4 := (hK3.new (PkC P A XS.length c) 36)
  have hS4 := hS3.below ((Below.refl w3.heap.size w3).alloc (Nat.le_refl _) (.cells (PkC P A XS.length c) 36))
  obtain ⟨h4, hh4⟩ : ∃ h4, h4 = w3.heap.size := ⟨_, rfl⟩
  obtain ⟨w4, hw4⟩ : ∃ w4, w4 = w3.alloc (.cells (PkC P A XS.length c) 36) := ⟨_, rfl⟩
  have HH : HL w h4 P A c XS w4 := by rw [hh4, hw4]; exact ⟨hK4, hS4⟩
  have HLT : Hid (w.heap.size < h4) := by have := hK3.lt; show w.heap.size < h4; omega
  rw [← hh4, ← hw4]
  clear hh4 hw4 hK3 hK4 hS3 hS4
  refine wp_region_held_drew (S := Kp w [(h4, PkC P A XS.length c, 36), (w.heap.size, PkC zPk none 0 0, 36)]) (by kernel_rfl) HH.drew.1 (fun hHeld => ?_)
  have hHX := HH.drew.2
  obtain ⟨wd, hwd⟩ : ∃ wd : World, wd = w4.drew := ⟨_, rfl⟩
  rw [← hwd] at hHeld hHX ⊢
  clear hwd
  have hSp : 0 < S.length := by omega
  refine tkY 0 oFpDec21 ?vw344 rfl (by kernel_rfl) (by kernel_rfl) (by kernel_rfl) (fun _ _ _ h => h) (by rfl) ?hz344 (by assumption) ?rs344
  case hz344 => (intro wz hSw; unfold oFpDec21; (try have hq1 := hSw.tail.cell); (try have hq2 := hSw.tail.tail.cell); (try have hq3 := hSw.cell); (try have hq4 := hSw.tail.row); (try have hq5 := hSw.tail.tail.row); (try have hq6 := hSw.row); (try have hq7 := hSw.tail.tail.tail.row); (try clear hSw); go_simp; all_goals with_reducible rfl)
  try simp only [oFpDec21, Act.put, sA, sB, sC]
  refine wpAnyH_ready (rs := [1]) (by kernel_rfl) (by simp) ?_
  refine (AllReadyH.cons (o := oFpDec22) rfl (fun K hK => ?_) AllReadyH.nil)
  unfold oFpDec22
  go_simp
  (go_at_call 29; refine (refRightW_eq P A XS.length c XS true _ hHX HF.out HRR.out).mono ?_; rintro e w6 ⟨rfl, hb6⟩; replace hHX := hHX.below hb6)
  refine hK.out _ _ (by first | exact hHeld.more hb6 | exact hHeld | exact ⟨_, hK9⟩ | exact below_more hHeld hb6) (fun hHeld1 => ?_)
  clear hHeld; have hHeld := hHeld1; clear hHeld1 hK K
  try simp only [oFpDec22, Act.put, sA, sB, sC]
  refine tkY 2 oFpDec23 ?vw345 rfl (by kernel_rfl) (by kernel_rfl) (by kernel_rfl) (fun _ _ _ h => h) (by rfl) ?hz345 (by assumption) ?rs345
  case hz345 => (intro wz hSw; unfold oFpDec23; (try clear hSw); go_simp; all_goals with_reducible rfl)
  try simp only [oFpDec23, Act.put, sA, sB, sC]
  refine tkY 3 oFpDec24 ?vw346 rfl (by kernel_rfl) (by kernel_rfl) (by kernel_rfl) (fun _ _ _ h => h) (by rfl) ?hz346 (by assumption) ?rs346
  case hz346 => (intro wz hSw; unfold oFpDec24; (try clear hSw); go_simp; all_goals with_reducible rfl)
  try simp only [oFpDec24, Act.put, sA, sB, sC]
  refine tkY 4 oFpDec25 ?vw347 rfl (by kernel_rfl) (by kernel_rfl) (by kernel_rfl) (fun _ _ _ h => h) (by rfl) ?hz347 (by assumption) ?rs347
  case hz347 => (intro wz hSw; unfold oFpDec25; (try have hq1 := hSw.tail.cell); (try have hq2 := hSw.tail.tail.cell); (try have hq3 := hSw.cell); (try have hq4 := hSw.tail.row); (try have hq5 := hSw.tail.tail.row); (try have hq6 := hSw.row); (try have hq7 := hSw.tail.tail.tail.row); (try clear hSw); go_simp; all_goals with_reducible rfl)
  try simp only [oFpDec25, Act.put, sA, sB, sC]
  refine tkY 6 oFpDec27 ?vw348 rfl (by kernel_rfl) (by kernel_rfl) (by kernel_rfl) (fun _ _ _ h => h) (by rfl) ?hz348 (by assumption) ?rs348
  case hz348 => (intro wz hSw; unfold oFpDec27; (try clear hSw); go_simp; all_goals with_reducible rfl)
  try simp only [oFpDec27, Act.put, sA, sB, sC]
  refine tkY 7 oFpDec28 ?vw349 rfl (by kernel_rfl) (by kernel_rfl) (by kernel_rfl) (fun _ _ _ h => h) (by rfl) ?hz349 (by assumption) ?rs349
  case hz349 => (intro wz hSw; unfold oFpDec28; (try clear hSw); go_simp; all_goals with_reducible rfl)
  try simp only [oFpDec28, Act.put, sA, sB, sC]
  refine tkY 8 oFpDec29 ?vw350 rfl (by kernel_rfl) (by kernel_rfl) (by kernel_rfl) (fun _ _ _ h => h) (by rfl) ?hz350 (by assumption) ?rs350
  case hz350 => (intro wz hSw; unfold oFpDec29; (try clear hSw); go_simp; all_goals with_reducible rfl)
  try simp only [oFpDec29, Act.put, sA, sB, sC]
  refine wpAnyH_ready (rs := [5]) (by kernel_rfl) (by simp) ?_
  refine (AllReadyH.cons (o := oFpDec26) rfl (fun K hK => ?_) AllReadyH.nil)
  unfold oFpDec26
  go_simp
  (go_at_call 27; refine (refFirst_eq P A XS.length c XS v HF.out HO.out HV.out).mono ?_; rintro e w6 ⟨rfl, hb6⟩; replace hHX := hHX.below hb6)
  refine hK.out _ _ (by first | exact hHeld.more hb6 | exact hHeld | exact ⟨_, hK9⟩ | exact below_more hHeld hb6) (fun hHeld1 => ?_)
  clear hHeld; have hHeld := hHeld1; clear hHeld1 hK K
  try simp only [oFpDec26, Act.put, sA, sB, sC]
  refine tkY 9 oFpDec210 ?vw351 rfl (by kernel_rfl) (by kernel_rfl) (by kernel_rfl) (fun _ _ _ h => h) (by rfl) ?hz351 (by assumption) ?rs351
  case hz351 => (intro wz hSw; unfold oFpDec210; (try clear hSw); go_simp; all_goals with_reducible rfl)
  try simp only [oFpDec210, Act.put, sA, sB, sC]
  refine tkY 10 oFpDec211 ?vw352 rfl (by kernel_rfl) (by kernel_rfl) (by kernel_rfl) (fun _ _ _ h => h) (by rfl) ?hz352 (by assumption) ?rs352
  case hz352 => (intro wz hSw; unfold oFpDec211; (try clear hSw); go_simp; all_goals with_reducible rfl)
  try simp only [oFpDec211, Act.put, sA, sB, sC]
  refine tkY 11 oFpDec212 ?vw353 rfl (by kernel_rfl) (by kernel_rfl) (by kernel_rfl) (fun _ _ _ h => h) (by rfl) ?hz353 (by assumption) ?rs353
  case hz353 => (intro wz hSw; unfold oFpDec212; (try clear hSw); go_simp; all_goals with_reducible rfl)
  try simp only [oFpDec212, Act.put, sA, sB, sC]
  refine wpAnyH_take (i := 12) (oi := oFpDec213) (v := undef) rfl (by kernel_rfl) (by kernel_rfl) (by kernel_rfl) (fun _ _ _ h => h) (Or.inr ⟨by rfl, rfl⟩) (by assumption) ?rt354
  try simp only [oFpDec213, Act.put, sA, sB, sC]
  refine wpAnyH_take (i := 13) (oi := oFpDec214) (v := undef) rfl (by kernel_rfl) (by kernel_rfl) (by kernel_rfl) (fun _ _ _ h => h) (Or.inr ⟨by rfl, rfl⟩) (by assumption) ?rt355
  try simp only [oFpDec214, Act.put, sA, sB, sC]
  refine wpAnyH_take (i := 14) (oi := oFpDec215) (v := undef) rfl (by kernel_rfl) (by kernel_rfl) (by kernel_rfl) (fun _ _ _ h => h) (Or.inr ⟨by rfl, rfl⟩) (by assumption) ?rt356
  try simp only [oFpDec215, Act.put, sA, sB, sC]
  refine wpAnyH_take (i := 15) (oi := oFpDec216) (v := undef) rfl (by kernel_rfl) (by kernel_rfl) (by kernel_rfl) (fun _ _ _ h => h) (Or.inr ⟨by rfl, rfl⟩) (by assumption) ?rt357
  try simp only [oFpDec216, Act.put, sA, sB, sC]
  refine tkY 16 oFpDec217 ?vw358 rfl (by kernel_rfl) (by kernel_rfl) (by kernel_rfl) (fun _ _ _ h => h) (by rfl) ?hz358 (by assumption) ?rs358
  case hz358 => (intro wz hSw; unfold oFpDec217; (try clear hSw); go_simp; all_goals with_reducible rfl)
  try simp only [oFpDec217, Act.put, sA, sB, sC]
  refine wpAnyH_done (by kernel_rfl) ?_ _
  have K9 := hHeld.swap
  have a1r := K9.row; have a1f := K9.free; have a1c := K9.cell; have a1l := K9.lt; have a1z := K9.froz
  have a2r := K9.tail.row; have a2f := K9.tail.free; have a2c := K9.tail.cell; have a2l := K9.tail.lt; have a2z := K9.tail.froz
  go_wp2_with fail
  refine ret_pk3 2 3 4 w.heap.size zPk none 0 0 (.int .i64 0) (.int .i64 4) rfl rfl (by go_simp <;> rfl) rfl rfl rfl ?_
  exact gdc_no (K9.set (by intro z hz; simp at hz; subst hz; have := HLT.out; dsimp only; omega) _).below
set_option maxHeartbeats 1000000 in
theorem refDecode_no3 (b : UInt8) (r X : List UInt8) (m U : Nat) (P : Pk) (XS : List (List UInt8 × Int)) (w : World) (hf : firB b.toNat = true) (hl : r.length ≤ 40000) (hr : rdR r = ((m : Int), (U : Int), 0)) (hm : m ≤ 268435455) (hu : 1 ≤ U) (hs : U + m ≤ r.length)
    (hX : (r.drop U).take m = X) (ht1 : 1 ≤ (b.toNat : Int) / 16) (ht2 : (b.toNat : Int) / 16 ≤ 14) (hP : gP b.toNat X = (P, XS)) (hF : Fit P XS) (h16 : T16 b X) (hR : decide (0 ≤ restN P XS) = true) (hO : Ok P XS) (hv : P.ty * 16 + flagsN P = b.toNat) (B : List UInt8) (hB : bodyL P XS = B) (hBX : (B == X) = false) :
    Calls Tryz.prog 22 #[.string ⟨(b :: r).toArray⟩] w fun e w' => GDC w zPk [] 0 4 e w' := by
  have HF := Lib.hid hF
  have HRR := Lib.hid hR
  have HO := Lib.hid hO
  have HV := Lib.hid hv
  have HB := Lib.hid hB
  clear hF hR hO hv hB
  have hbb := b.toNat_lt
  obtain ⟨S, hS⟩ : ∃ S, S = b :: r := ⟨_, rfl⟩
  have hA : ∀ h0 : 0 < (ByteArray.mk S.toArray).size, (ByteArray.mk S.toArray)[0]'h0 = b := by intro h0; subst hS; rfl
  have hSb : (S == []) = false := by rw [hS]; rfl
  have h1l : 1 ≤ S.length := by rw [hS]; simp
  have hSl : S.length ≤ r.length + 1 := by rw [hS]; simp
  have hSm : r.length + 1 ≤ S.length := by rw [hS]; simp
  have hT : S.tail = r := by rw [hS]; rfl
  have h1i : (1 : Int) ≤ (S.length : Int) := by omega
  have hK0 := ((Kp.nil w).new (PkC zPk none 0 0) 36)
  obtain ⟨U1, hU1⟩ : ∃ U1 : Nat, U1 = U + 1 := ⟨_, rfl⟩
  obtain ⟨N, hN⟩ : ∃ N : Nat, N = U1 + m := ⟨_, rfl⟩
  have hUI : (1 : Int) + (U : Int) = (U1 : Int) := by omega
  have hNI : (U1 : Int) + (m : Int) = (N : Int) := by omega
  have hwU : IntKind.i64.wrap (U1 : Int) = (U1 : Int) := IntWalk.i64_in _ (by omega)
  have hwN : IntKind.i64.wrap (N : Int) = (N : Int) := IntWalk.i64_in _ (by omega)
  have hlt : ¬ (S.length : Int) < (N : Int) := by omega
  have hlt2 : ¬ S.length < N := by omega
  have k0 : (0 : Int) ≤ (U1 : Int) := by omega
  have k1 : (U1 : Int) ≤ (N : Int) := by omega
  have k2 : (N : Int) ≤ (S.length : Int) := by omega
  have k3 : U1 ≤ N := by omega
  have hXX : List.drop U1 (List.take N S) = X := by rw [← hX, hU1, hN, hS, hU1, List.drop_take, show U + 1 + m - (U + 1) = m by omega, List.drop_succ_cons]
  have hXl : X.length ≤ 40000 := by rw [← hX, List.length_take, List.length_drop]; omega
  have HR := Lib.hid hr
  have HP := Lib.hid hP
  have hwb : IntKind.i64.wrap (b.toNat : Int) = (b.toNat : Int) := IntWalk.i64_in _ (by omega)
  rw [← hS]
  clear hS hr hs hN hU1 hX hP
  go_enter Tryz.func22, Tryz.ntmps22
  go_wp2_with fail
  refine (refFirst5_eq b.toNat true _ (by omega) (by omega) hf).mono ?_
  rintro e w1 ⟨rfl, hb1⟩
  have hK1 := hK0.more hb1
  clear hK0 hb1
  go_wp2_with fail
  refine (refReadLen_eq r m U 0 _ (by omega) HR.out).mono ?_
  rintro e w2 ⟨rfl, hb2⟩
  have hK2 := hK1.more hb2
  clear hK1 hb2
  go_upto_region 12 with fail
  go_cut [61] (fun s61 wx => s61 = .bool false ∧ wx = w2)
  case first =>
    obtain ⟨x6, h16⟩ := h16
    rcases h16 with h16 | h16 | h16 | h16 <;> obtain ⟨hz1, hz2, hz3, hz4, hz5⟩ := h16
    all_goals
      go_wp2_with fail
      go_meet
      case rel => exact ⟨by first | rfl | (rw [bne, hz5]; rfl), rfl⟩
  obtain ⟨rfl, rfl⟩ := hcut
  clear h16
  go_wp2_with fail
  refine (guess_eq b.toNat X P XS _ (by omega) (by omega) (by omega) ht1 ht2 HP.out).mono ?_
  rintro e w3 ⟨A, c, rfl, hb3, hS3, hc3, hlo3⟩
  have HLO : Hid (0 < XS.length → ∀ b o, A = some ⟨b, o, none⟩ → w.heap.size < b) := by intro hn b o e; have h1 := hlo3 hn b o e; have h2 := hK2.lt; omega
  clear hlo3
  have hK3 := hK2.more hb3
  clear hK2
  have HC := Lib.hid hc3
  clear hc3
  go_wp2_with fail
  have hK4 := (hK3.new (PkC P A XS.length c) 36)
  have hS4 := hS3.below ((Below.refl w3.heap.size w3).alloc (Nat.le_refl _) (.cells (PkC P A XS.length c) 36))
  obtain ⟨h4, hh4⟩ : ∃ h4, h4 = w3.heap.size := ⟨_, rfl⟩
  obtain ⟨w4, hw4⟩ : ∃ w4, w4 = w3.alloc (.cells (PkC P A XS.length c) 36) := ⟨_, rfl⟩
  have HH : HL w h4 P A c XS w4 := by rw [hh4, hw4]; exact ⟨hK4, hS4⟩
  have HLT : Hid (w.heap.size < h4) := by have := hK3.lt; show w.heap.size < h4; omega
  rw [← hh4, ← hw4]
  clear hh4 hw4 hK3 hK4 hS3 hS4
  refine wp_region_held_drew (S := Kp w [(h4, PkC P A XS.length c, 36), (w.heap.size, PkC zPk none 0 0, 36)]) (by kernel_rfl) HH.drew.1 (fun hHeld => ?_)
  have hHX := HH.drew.2
  obtain ⟨wd, hwd⟩ : ∃ wd : World, wd = w4.drew := ⟨_, rfl⟩
  rw [← hwd] at hHeld hHX ⊢
  clear hwd
  have hSp : 0 < S.length := by omega
  refine tkY 0 oFpDec21 ?vw359 rfl (by kernel_rfl) (by kernel_rfl) (by kernel_rfl) (fun _ _ _ h => h) (by rfl) ?hz359 (by assumption) ?rs359
  case hz359 => (intro wz hSw; unfold oFpDec21; (try have hq1 := hSw.tail.cell); (try have hq2 := hSw.tail.tail.cell); (try have hq3 := hSw.cell); (try have hq4 := hSw.tail.row); (try have hq5 := hSw.tail.tail.row); (try have hq6 := hSw.row); (try have hq7 := hSw.tail.tail.tail.row); (try clear hSw); go_simp; all_goals with_reducible rfl)
  try simp only [oFpDec21, Act.put, sA, sB, sC]
  refine wpAnyH_ready (rs := [1]) (by kernel_rfl) (by simp) ?_
  refine (AllReadyH.cons (o := oFpDec22) rfl (fun K hK => ?_) AllReadyH.nil)
  unfold oFpDec22
  go_simp
  (go_at_call 29; refine (refRightW_eq P A XS.length c XS true _ hHX HF.out HRR.out).mono ?_; rintro e w6 ⟨rfl, hb6⟩; replace hHX := hHX.below hb6)
  refine hK.out _ _ (by first | exact hHeld.more hb6 | exact hHeld | exact ⟨_, hK9⟩ | exact below_more hHeld hb6) (fun hHeld1 => ?_)
  clear hHeld; have hHeld := hHeld1; clear hHeld1 hK K
  try simp only [oFpDec22, Act.put, sA, sB, sC]
  refine tkY 2 oFpDec23 ?vw360 rfl (by kernel_rfl) (by kernel_rfl) (by kernel_rfl) (fun _ _ _ h => h) (by rfl) ?hz360 (by assumption) ?rs360
  case hz360 => (intro wz hSw; unfold oFpDec23; (try clear hSw); go_simp; all_goals with_reducible rfl)
  try simp only [oFpDec23, Act.put, sA, sB, sC]
  refine tkY 3 oFpDec24 ?vw361 rfl (by kernel_rfl) (by kernel_rfl) (by kernel_rfl) (fun _ _ _ h => h) (by rfl) ?hz361 (by assumption) ?rs361
  case hz361 => (intro wz hSw; unfold oFpDec24; (try clear hSw); go_simp; all_goals with_reducible rfl)
  try simp only [oFpDec24, Act.put, sA, sB, sC]
  refine tkY 4 oFpDec25 ?vw362 rfl (by kernel_rfl) (by kernel_rfl) (by kernel_rfl) (fun _ _ _ h => h) (by rfl) ?hz362 (by assumption) ?rs362
  case hz362 => (intro wz hSw; unfold oFpDec25; (try have hq1 := hSw.tail.cell); (try have hq2 := hSw.tail.tail.cell); (try have hq3 := hSw.cell); (try have hq4 := hSw.tail.row); (try have hq5 := hSw.tail.tail.row); (try have hq6 := hSw.row); (try have hq7 := hSw.tail.tail.tail.row); (try clear hSw); go_simp; all_goals with_reducible rfl)
  try simp only [oFpDec25, Act.put, sA, sB, sC]
  refine tkY 6 oFpDec27 ?vw363 rfl (by kernel_rfl) (by kernel_rfl) (by kernel_rfl) (fun _ _ _ h => h) (by rfl) ?hz363 (by assumption) ?rs363
  case hz363 => (intro wz hSw; unfold oFpDec27; (try clear hSw); go_simp; all_goals with_reducible rfl)
  try simp only [oFpDec27, Act.put, sA, sB, sC]
  refine tkY 7 oFpDec28 ?vw364 rfl (by kernel_rfl) (by kernel_rfl) (by kernel_rfl) (fun _ _ _ h => h) (by rfl) ?hz364 (by assumption) ?rs364
  case hz364 => (intro wz hSw; unfold oFpDec28; (try clear hSw); go_simp; all_goals with_reducible rfl)
  try simp only [oFpDec28, Act.put, sA, sB, sC]
  refine tkY 8 oFpDec29 ?vw365 rfl (by kernel_rfl) (by kernel_rfl) (by kernel_rfl) (fun _ _ _ h => h) (by rfl) ?hz365 (by assumption) ?rs365
  case hz365 => (intro wz hSw; unfold oFpDec29; (try clear hSw); go_simp; all_goals with_reducible rfl)
  try simp only [oFpDec29, Act.put, sA, sB, sC]
  refine wpAnyH_ready (rs := [5]) (by kernel_rfl) (by simp) ?_
  refine (AllReadyH.cons (o := oFpDec26) rfl (fun K hK => ?_) AllReadyH.nil)
  unfold oFpDec26
  go_simp
  (go_at_call 27; refine (refFirst_eq P A XS.length c XS b.toNat HF.out HO.out HV.out).mono ?_; rintro e w6 ⟨rfl, hb6⟩; replace hHX := hHX.below hb6)
  refine hK.out _ _ (by first | exact hHeld.more hb6 | exact hHeld | exact ⟨_, hK9⟩ | exact below_more hHeld hb6) (fun hHeld1 => ?_)
  clear hHeld; have hHeld := hHeld1; clear hHeld1 hK K
  try simp only [oFpDec26, Act.put, sA, sB, sC]
  refine tkY 9 oFpDec210 ?vw366 rfl (by kernel_rfl) (by kernel_rfl) (by kernel_rfl) (fun _ _ _ h => h) (by rfl) ?hz366 (by assumption) ?rs366
  case hz366 => (intro wz hSw; unfold oFpDec210; (try clear hSw); go_simp; all_goals with_reducible rfl)
  try simp only [oFpDec210, Act.put, sA, sB, sC]
  refine tkY 10 oFpDec211 ?vw367 rfl (by kernel_rfl) (by kernel_rfl) (by kernel_rfl) (fun _ _ _ h => h) (by rfl) ?hz367 (by assumption) ?rs367
  case hz367 => (intro wz hSw; unfold oFpDec211; (try clear hSw); go_simp; all_goals with_reducible rfl)
  try simp only [oFpDec211, Act.put, sA, sB, sC]
  refine tkY 11 oFpDec212 ?vw368 rfl (by kernel_rfl) (by kernel_rfl) (by kernel_rfl) (fun _ _ _ h => h) (by rfl) ?hz368 (by assumption) ?rs368
  case hz368 => (intro wz hSw; unfold oFpDec212; (try clear hSw); go_simp; all_goals with_reducible rfl)
  try simp only [oFpDec212, Act.put, sA, sB, sC]
  refine tkY 12 oFpDec213 ?vw369 rfl (by kernel_rfl) (by kernel_rfl) (by kernel_rfl) (fun _ _ _ h => h) (by rfl) ?hz369 (by assumption) ?rs369
  case hz369 => (intro wz hSw; unfold oFpDec213; (try have hq1 := hSw.tail.cell); (try have hq2 := hSw.tail.tail.cell); (try have hq3 := hSw.cell); (try have hq4 := hSw.tail.row); (try have hq5 := hSw.tail.tail.row); (try have hq6 := hSw.row); (try have hq7 := hSw.tail.tail.tail.row); (try clear hSw); go_simp; all_goals with_reducible rfl)
  try simp only [oFpDec213, Act.put, sA, sB, sC]
  refine tkY 14 oFpDec215 ?vw370 rfl (by kernel_rfl) (by kernel_rfl) (by kernel_rfl) (fun _ _ _ h => h) (by rfl) ?hz370 (by assumption) ?rs370
  case hz370 => (intro wz hSw; unfold oFpDec215; (try clear hSw); go_simp; all_goals with_reducible rfl)
  try simp only [oFpDec215, Act.put, sA, sB, sC]
  refine wpAnyH_ready (rs := [13]) (by kernel_rfl) (by simp) ?_
  refine (AllReadyH.cons (o := oFpDec214) rfl (fun K hK => ?_) AllReadyH.nil)
  unfold oFpDec214
  go_simp
  (go_at_call 30; refine (refRestW_eq P A XS.length c XS B hHX HF.out HO.out HB.out).mono ?_; rintro e w6 ⟨rfl, hb6⟩; replace hHX := hHX.below hb6)
  refine hK.out _ _ (by first | exact hHeld.more hb6 | exact hHeld | exact ⟨_, hK9⟩ | exact below_more hHeld hb6) (fun hHeld1 => ?_)
  clear hHeld; have hHeld := hHeld1; clear hHeld1 hK K
  try simp only [oFpDec214, Act.put, sA, sB, sC]
  refine tkY 15 oFpDec216 ?vw371 rfl (by kernel_rfl) (by kernel_rfl) (by kernel_rfl) (fun _ _ _ h => h) (by rfl) ?hz371 (by assumption) ?rs371
  case hz371 => (intro wz hSw; unfold oFpDec216; (try clear hSw); go_simp; all_goals with_reducible rfl)
  try simp only [oFpDec216, Act.put, sA, sB, sC]
  refine tkY 16 oFpDec217 ?vw372 rfl (by kernel_rfl) (by kernel_rfl) (by kernel_rfl) (fun _ _ _ h => h) (by rfl) ?hz372 (by assumption) ?rs372
  case hz372 => (intro wz hSw; unfold oFpDec217; (try clear hSw); go_simp; all_goals with_reducible rfl)
  try simp only [oFpDec217, Act.put, sA, sB, sC]
  refine wpAnyH_done (by kernel_rfl) ?_ _
  have K9 := hHeld.swap
  have a1r := K9.row; have a1f := K9.free; have a1c := K9.cell; have a1l := K9.lt; have a1z := K9.froz
  have a2r := K9.tail.row; have a2f := K9.tail.free; have a2c := K9.tail.cell; have a2l := K9.tail.lt; have a2z := K9.tail.froz
  go_wp2_with fail
  refine ret_pk3 2 3 4 w.heap.size zPk none 0 0 (.int .i64 0) (.int .i64 4) rfl rfl (by go_simp <;> rfl) rfl rfl rfl ?_
  exact gdc_no (K9.set (by intro z hz; simp at hz; subst hz; have := HLT.out; dsimp only; omega) _).below
end Go.Proofs.YtnaedcennichlaaGreatDoor
