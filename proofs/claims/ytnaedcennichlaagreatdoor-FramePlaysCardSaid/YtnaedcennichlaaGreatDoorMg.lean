/-
  WrRef, WrKit, WrA, WrB, WrC, WrD in one. (By tools/cmerge.py.)
-/
import Derived.Test.YtnaedcennichlaaGreatDoorMc
import Derived.Test.YtnaedcennichlaaGreatDoorTextRefs
import Derived.Test.YtnaedcennichlaaGreatDoorPkRh
import Derived.Test.YtnaedcennichlaaGreatDoorPkKit
import Derived.Test.YtnaedcennichlaaGreatDoorTextWalks
import Derived.Lib.Builder
import Derived.Lib.OthersKept
import Derived.Lib.MakeNoZero
import Derived.Laws.CopyOwn
import Derived.Laws.Externs
import Derived.BigQuiet
import Derived.BigRegion
import Derived.Deep.QuietTactic
import Derived.Test.YtnaedcennichlaaGreatDoorPkI
import Derived.Deep.Cut
import Derived.Test.YtnaedcennichlaaGreatDoorPkG
set_option linter.unusedSimpArgs false
set_option linter.unusedVariables false
/-
  The document's own encodings: words, fields, the first byte.
-/
namespace Go.Proofs.YtnaedcennichlaaGreatDoor
open Go.RowKit
set_option maxRecDepth 100000
theorem refOne_any (x : Int) (w : World) (h0 : 0 ≤ x) (h1 : x < 256) :
    Calls Tryz.prog 48 #[.int .i64 x] w fun e w' => e = .returned (.string ⟨[toB x].toArray⟩) ∧ Below w.heap.size w w' := by
  have hcv := fun W => conv_new1 (P := Tryz.prog) (S := 9) Tryz.underlying23 Tryz.underlying5 Tryz.underlying9 W x h0 h1
  have hcw := fun W => conv_new1d (P := Tryz.prog) (S := 9) Tryz.underlying23 Tryz.underlying5 Tryz.underlying9 W x h0 h1
  have hwr : IntKind.u8.wrap x = x := IntWalk.u8_in _ (by omega)
  go_enter Tryz.func48, Tryz.ntmps48
  go_wp2
  go_ret
  exact ⟨rfl, (Below.refl _ _).alloc (Nat.le_refl _) _⟩
theorem refYes_any (b : Bool) (n : Int) (w : World) :
    Calls Tryz.prog 36 #[.bool b, .int .i64 n] w fun e w' => e = .returned (.int .i64 (yesI b n)) ∧ w = w' := by
  go_enter Tryz.func36, Tryz.ntmps36
  cases b <;> (go_wp2; go_ret; exact ⟨rfl, rfl⟩)
theorem words_oneW (n : Int) (h0 : 0 ≤ n) (h1 : n ≤ 65535) : wordsR [n] = (wordL n, 0) := words_one n h0 h1
theorem refWord_any (n : Int) (w : World) (h0 : 0 ≤ n) (h1 : n ≤ 65535) :
    Calls Tryz.prog 49 #[.int .u16 n] w fun e w' => e = .returned (.string ⟨(wordL n).toArray⟩) ∧ Below w.heap.size w w' := by
  have hb : Below w.heap.size w w := Below.refl _ _
  have hwr : IntKind.i64.wrap n = n := IntWalk.i64_in _ (by omega)
  go_enter Tryz.func49, Tryz.ntmps49
  go_wp2_with fail
  refine (refWords_eq _ 1 _ [n] _ 0 _ (ints_new1 _ _ _) (by omega) (words_oneW _ h0 h1)).mono ?_
  rintro e w1 ⟨rfl, hb1⟩
  replace hb := below_more (below_alloc hb _) hb1
  clear hb1
  go_wp2_with fail
  go_ret
  exact ⟨rfl, hb⟩
theorem refData_any (l : List UInt8) (w : World) (h : l.length ≤ 65535) :
    Calls Tryz.prog 47 #[.string ⟨l.toArray⟩] w fun e w' => e = .returned (.string ⟨(fieldL l).toArray⟩) ∧ Below w.heap.size w w' := by
  have hb : Below w.heap.size w w := Below.refl _ _
  go_enter Tryz.func47, Tryz.ntmps47
  go_wp2_with fail
  refine (refPutData_yes l _ h).mono ?_
  rintro e w1 ⟨rfl, hb1⟩
  replace hb := below_more hb hb1
  clear hb1
  go_wp2_with fail
  go_ret
  exact ⟨rfl, hb⟩
end Go.Proofs.YtnaedcennichlaaGreatDoor

/-
  A strings.Builder that a call has made, and the blocks of its own beside it: the words of write's walks, and what the Builder's methods do.
-/
namespace Go.Proofs.YtnaedcennichlaaGreatDoor
open Go.RowKit
set_option maxRecDepth 100000
section
variable {w0 w w' : World} {b g : Nat} {l l' : List UInt8} {L : List (Nat × Array Value × TypeId)} {cs : Array Value} {t : TypeId} {B : Nat} {T e : TypeId} {p v v' : Value} {bs : List Value}
end
section
variable {w0 : World} {b : Nat} {l : List UInt8} {L : List (Nat × Array Value × TypeId)} {w : World}
end
end Go.Proofs.YtnaedcennichlaaGreatDoor

/-
  write: the small functions.
-/
namespace Go.Proofs.YtnaedcennichlaaGreatDoor
open Go.RowKit

theorem yes_bd (b : Bool) (n : Int) (h : 0 ≤ n) : 0 ≤ yesI b n ∧ yesI b n ≤ n := by unfold yesI; split <;> omega
section
variable {w0 : World} {b : Nat} {l : List UInt8} {L : List (Nat × Array Value × TypeId)} {w : World}
end
end Go.Proofs.YtnaedcennichlaaGreatDoor

/-
  write: what is put behind one another. (By tools/genwrb.py.)
-/
namespace Go.Proofs.YtnaedcennichlaaGreatDoor
open Go.RowKit
section
variable {w0 : World} {b : Nat} {l : List UInt8} {L : List (Nat × Array Value × TypeId)} {w : World}
theorem subX_snoc (t : Int) (xs : List (List UInt8 × Int)) (k : Nat) (x : List UInt8 × Int) (hx : xs[k]? = some x) : subX t (xs.take (k + 1)) = subX t (xs.take k) ++ (fieldL x.1 ++ (if t = 8 then [toB x.2] else [])) := by
  rw [List.take_add_one, hx, subX_app]
  simp [subX]
theorem subX_le (t : Int) (xs : List (List UInt8 × Int)) (h : ∀ x ∈ xs, valB x.1 = true) : (subX t xs).length ≤ 65538 * xs.length := by
  induction xs with
  | nil => simp [subX]
  | cons x r ih =>
    have h1 := ih (fun y hy => h y (by simp [hy]))
    have h2 := val_len (h x (by simp))
    simp only [subX, List.length_append, fieldL_len, List.length_cons]
    split <;> simp <;> omega
theorem load_le {p : Pk} {xs : List (List UInt8 × Int)} (h : totB p xs ≤ 90000) : p.load.length ≤ 1000000 ∧ p.codes.length ≤ 1000000 := by unfold totB at h; omega
end
end Go.Proofs.YtnaedcennichlaaGreatDoor

/-
  write: a Builder that is grown.
-/
namespace Go.Proofs.YtnaedcennichlaaGreatDoor
open Go.RowKit
set_option maxRecDepth 100000
section
variable {w0 : World} {b : Nat} {l : List UInt8} {L : List (Nat × Array Value × TypeId)} {w : World}
end
end Go.Proofs.YtnaedcennichlaaGreatDoor

/-
  write: what stands ahead of a rest; all packets; one packet; its size.
-/
namespace Go.Proofs.YtnaedcennichlaaGreatDoor
open Go.RowKit
set_option maxRecDepth 100000
section
variable {w0 w w' : World} {b g : Nat} {l : List UInt8} {L : List (Nat × Array Value × TypeId)} {cs : Array Value} {t : TypeId}
end
/-- A packet with its Subs. -/
abbrev PX : Type := Pk × List (List UInt8 × Int)
/-- A slice of packets reads as ps. -/
def Pks (w : World) (A : Option Addr) (n : Nat) (ps : List PX) : Prop :=
  ps.length = n ∧ (0 < n → ∃ b off, A = some ⟨b, off, none⟩ ∧ b < w.heap.size ∧ ∀ j x, ps[j]? = some x → off + j * 24 + 24 ≤ (rowAt w b).size ∧ ∃ A' n' c', (rowAt w b).extract (off + j * 24) (off + j * 24 + 24) = PkC x.1 A' n' c' ∧ Subs w A' n' x.2 ∧ (A' = none → c' = 0))
section
variable {w w' : World} {A : Option Addr} {n : Nat} {ps : List PX}
theorem Pks.len (h : Pks w A n ps) : ps.length = n := h.1
theorem Pks.below (h : Pks w A n ps) (hb : Below w.heap.size w w') : Pks w' A n ps :=
  ⟨h.1, fun hn => by
    obtain ⟨b, off, e, hlt, hc⟩ := h.2 hn
    refine ⟨b, off, e, Nat.lt_of_lt_of_le hlt hb.size, fun j x hx => ?_⟩
    obtain ⟨h1, A', n', c', h2, h3, h4⟩ := hc j x hx
    rw [rowAt_below hb hlt]
    exact ⟨h1, A', n', c', h2, h3.below hb, h4⟩⟩
theorem Pks.at_ (h : Pks w A n ps) {k : Nat} (hk : k < n) : ∃ b off x A' n' c', A = some ⟨b, off, none⟩ ∧ ps[k]? = some x ∧ b < w.heap.size ∧ off + k * 24 + 24 ≤ (rowAt w b).size ∧ (rowAt w b).extract (off + k * 24) (off + k * 24 + 24) = PkC x.1 A' n' c' ∧ Subs w A' n' x.2 ∧ (A' = none → c' = 0) := by
  obtain ⟨b, off, e, hlt, hc⟩ := h.2 (by omega)
  have hl : k < ps.length := by rw [h.1]; exact hk
  obtain ⟨h1, A', n', c', h2, h3, h4⟩ := hc k ps[k] (List.getElem?_eq_getElem hl)
  exact ⟨b, off, ps[k], A', n', c', e, List.getElem?_eq_getElem hl, hlt, h1, h2, h3, h4⟩
theorem Pks.nil (A : Option Addr) : Pks w A 0 [] := ⟨rfl, fun h => by omega⟩
end
@[go_sem] theorem foldl_PkC (p q : Pk) (A B : Option Addr) (n c m d : Nat) : Array.foldl (fun (cs : Array Value) (x : Value × Nat) => cs.setIfInBounds x.snd x.fst) (PkC p A n c) (PkC q B m d).zipIdx 0 24 = PkC q B m d := by simp [PkC]
@[go_sem] theorem foldl_SbC (a f : List UInt8) (b q : Int) : Array.foldl (fun (cs : Array Value) (x : Value × Nat) => cs.setIfInBounds x.snd x.fst) (SbC a b) (SbC f q).zipIdx 0 2 = SbC f q := by simp [SbC]
end Go.Proofs.YtnaedcennichlaaGreatDoor
