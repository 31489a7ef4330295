/-
  write: what stands ahead of a rest; all packets; one packet; its size.
-/
import Derived.Test.YtncgkkhpcgdcaaaDoorWrB
import Derived.Test.YtncgkkhpcgdcaaaDoorWrC
import Derived.Test.YtncgkkhpcgdcaaaDoorWrInj
import Derived.Test.YtncgkkhpcgdcaaaDoorPkG
import Derived.Deep.Cut
set_option linter.unusedSimpArgs false
set_option linter.unusedVariables false
namespace Go.Proofs.YtncgkkhpcgdcaaaDoor
open Go.RowKit
set_option maxRecDepth 100000
section
variable {w0 w w' : World} {b g : Nat} {l : List UInt8} {L : List (Nat × Array Value × TypeId)} {cs : Array Value} {t : TypeId}
end
/-- A packet with its Subs. -/
abbrev PX : Type := Pk × List (List UInt8 × Int)
/-- A slice of packets reads as ps. -/
def Pks (w : World) (A : Option Addr) (n : Nat) (ps : List PX) : Prop :=
  ps.length = n ∧ (0 < n → ∃ b off, A = some ⟨b, off, none⟩ ∧ b < w.heap.size ∧ ∀ j x, ps[j]? = some x → off + j * 24 + 24 ≤ (rowAt w b).size ∧ ∃ A' n' c', (rowAt w b).extract (off + j * 24) (off + j * 24 + 24) = PkC x.1 A' n' c' ∧ Subs w A' n' x.2 ∧ (A' = none → c' = 0))
section
variable {w w' : World} {A : Option Addr} {n : Nat} {ps : List PX}
theorem Pks.len (h : Pks w A n ps) : ps.length = n := h.1
theorem Pks.below (h : Pks w A n ps) (hb : Below w.heap.size w w') : Pks w' A n ps :=
  ⟨h.1, fun hn => by
    obtain ⟨b, off, e, hlt, hc⟩ := h.2 hn
    refine ⟨b, off, e, Nat.lt_of_lt_of_le hlt hb.size, fun j x hx => ?_⟩
    obtain ⟨h1, A', n', c', h2, h3, h4⟩ := hc j x hx
    rw [rowAt_below hb hlt]
    exact ⟨h1, A', n', c', h2, h3.below hb, h4⟩⟩
theorem Pks.at_ (h : Pks w A n ps) {k : Nat} (hk : k < n) : ∃ b off x A' n' c', A = some ⟨b, off, none⟩ ∧ ps[k]? = some x ∧ b < w.heap.size ∧ off + k * 24 + 24 ≤ (rowAt w b).size ∧ (rowAt w b).extract (off + k * 24) (off + k * 24 + 24) = PkC x.1 A' n' c' ∧ Subs w A' n' x.2 ∧ (A' = none → c' = 0) := by
  obtain ⟨b, off, e, hlt, hc⟩ := h.2 (by omega)
  have hl : k < ps.length := by rw [h.1]; exact hk
  obtain ⟨h1, A', n', c', h2, h3, h4⟩ := hc k ps[k] (List.getElem?_eq_getElem hl)
  exact ⟨b, off, ps[k], A', n', c', e, List.getElem?_eq_getElem hl, hlt, h1, h2, h3, h4⟩
theorem Pks.nil (A : Option Addr) : Pks w A 0 [] := ⟨rfl, fun h => by omega⟩
theorem pks_one {g : Nat} {p : Pk} {A : Option Addr} {n c : Nat} {xs : List (List UInt8 × Int)} (h : rowAt w g = PkC p A n c) (hg : g < w.heap.size) (hs : Subs w A n xs) (hc : A = none → c = 0) : Pks w (some ⟨g, 0, none⟩) 1 [(p, xs)] := by
  refine ⟨rfl, fun _ => ⟨g, 0, rfl, hg, fun j x hx => ?_⟩⟩
  match j, hx with
  | 0, hx =>
    cases hx
    rw [h]
    exact ⟨by simp, A, n, c, by simp only [Nat.zero_mul, Nat.zero_add]; exact PkC_all, hs, hc⟩
  | j + 1, hx => simp at hx
end
@[go_sem] theorem foldl_PkC (p q : Pk) (A B : Option Addr) (n c m d : Nat) : Array.foldl (fun (cs : Array Value) (x : Value × Nat) => cs.setIfInBounds x.snd x.fst) (PkC p A n c) (PkC q B m d).zipIdx 0 24 = PkC q B m d := by simp [PkC]
@[go_sem] theorem foldl_SbC (a f : List UInt8) (b q : Int) : Array.foldl (fun (cs : Array Value) (x : Value × Nat) => cs.setIfInBounds x.snd x.fst) (SbC a b) (SbC f q).zipIdx 0 2 = SbC f q := by simp [SbC]
theorem subs_one {w : World} {g : Nat} {f : List UInt8} {q : Int} (h : rowAt w g = SbC f q) (hg : g < w.heap.size) : Subs w (some ⟨g, 0, none⟩) 1 [(f, q)] := by
  refine ⟨rfl, fun _ => ⟨g, 0, rfl, hg, fun j x hx => ?_⟩⟩
  match j, hx with
  | 0, hx =>
    cases hx
    rw [h]
    exact ⟨by simp, by simp⟩
  | j + 1, hx => simp at hx
def okB (x : PX) : Bool := decide (0 ≤ restN x.1 x.2)
def encP (x : PX) : List UInt8 := encL x.1 x.2
/-- What All answers. -/
def allR (ps : List PX) : List UInt8 × Int := if ps.all okB then (ps.flatMap encP, 0) else ([], 4)
theorem all_no' (ps : List PX) (k : Nat) (x : PX) (hx : ps[k]? = some x) (h : okB x = false) : allR ps = ([], 4) := by
  unfold allR
  rw [if_neg]
  intro hh
  rw [List.all_eq_true] at hh
  have := hh x (List.mem_of_getElem? hx)
  rw [h] at this
  cases this
theorem all_yes' (ps : List PX) (h : ps.all okB = true) : allR ps = (ps.flatMap encP, 0) := by unfold allR; rw [if_pos h]
theorem enc_snoc (ps : List PX) (k : Nat) (x : PX) (hx : ps[k]? = some x) : (ps.take (k + 1)).flatMap encP = (ps.take k).flatMap encP ++ encP x := by
  rw [List.take_add_one, hx]; simp
theorem ok_snoc (ps : List PX) (k : Nat) (x : PX) (hx : ps[k]? = some x) (h : okB x = true) (hk : (ps.take k).all okB = true) : (ps.take (k + 1)).all okB = true := by
  rw [List.take_add_one, hx, List.all_append, hk]; simp [h]
theorem okB_ok {x : PX} (h : okB x = true) : Ok x.1 x.2 := ok_of (by simpa [okB] using h)
theorem encP_len {x : PX} (h : okB x = true) : (encP x).length ≤ 268435460 := by
  have h1 := enc_len (okB_ok h)
  have h2 := sizeF_bd (restN x.1 x.2)
  have h3 := (okB_ok h).hi
  show (encL x.1 x.2).length ≤ _
  omega
theorem encs_len (ps : List PX) (h : ps.all okB = true) : (ps.flatMap encP).length ≤ 268435460 * ps.length := by
  induction ps with
  | nil => simp
  | cons x r ih =>
    rw [List.all_cons, Bool.and_eq_true] at h
    have h1 := ih h.2
    have h2 := encP_len h.1
    simp only [List.flatMap_cons, List.length_append, List.length_cons]
    omega
/-- What Encode answers. -/
def encR (p : Pk) (xs : List (List UInt8 × Int)) : List UInt8 × Int := if 0 ≤ restN p xs then (encL p xs, 0) else ([], 4)
theorem all_one (p : Pk) (xs : List (List UInt8 × Int)) : allR [(p, xs)] = encR p xs := by
  unfold allR encR okB encP
  by_cases h : 0 ≤ restN p xs <;> simp [h]
/-- What Size answers. -/
def sizR (p : Pk) (xs : List (List UInt8 × Int)) : Int := if 0 ≤ restN p xs then 1 + sizeF (restN p xs) + restN p xs else 0
theorem size_any (p : Pk) (A : Option Addr) (n c : Nat) (xs : List (List UInt8 × Int)) (w : World) (hG : Glo w) (hs : Subs w A n xs) (hf : Fit p xs) :
    Calls Tryd.prog 15 #[.agg (PkC p A n c)] w fun e w' => e = .returned (.int .i64 (sizR p xs)) ∧ Below w.heap.size w w' := by
  obtain ⟨v, hv⟩ : ∃ v, restN p xs = v := ⟨_, rfl⟩
  have hK0 := (Kp.nil w).new (PkC p A n c) 30
  by_cases h0 : 0 ≤ v
  · have h1 : v ≤ 268435455 := by rw [← hv]; exact (ok_of (hv ▸ h0)).hi
    have hR : sizR p xs = 1 + sizeF v + v := by unfold sizR; rw [hv, if_pos h0]
    rw [hR]
    have HG := Lib.hid hG
    have HS := Lib.hid hs
    have HF := Lib.hid hf
    have HV := Lib.hid hv
    clear hG hs hf hv hR
    go_enter Tryd.func15, Tryd.ntmps15
    go_wp2_with fail
    refine (rest_eq p A n c xs v _ (HG.out.below hK0.below) (HS.out.below hK0.below) HF.out HV.out).mono ?_
    rintro e w6 ⟨rfl, hb6⟩
    have hK1 := hK0.more hb6
    clear hb6 hK0
    go_wp2_with fail
    refine (sizeOf_any v _ h0 h1).mono ?_
    rintro e w7 ⟨rfl, rfl⟩
    go_wp2_with fail
    go_ret
    exact ⟨rfl, hK1.below⟩
  · have hR : sizR p xs = 0 := by unfold sizR; rw [hv, if_neg h0]
    rw [hR]
    have h0' : v < 0 := by omega
    have HG := Lib.hid hG
    have HS := Lib.hid hs
    have HF := Lib.hid hf
    have HV := Lib.hid hv
    clear hG hs hf hv hR h0
    go_enter Tryd.func15, Tryd.ntmps15
    go_wp2_with fail
    refine (rest_eq p A n c xs v _ (HG.out.below hK0.below) (HS.out.below hK0.below) HF.out HV.out).mono ?_
    rintro e w6 ⟨rfl, hb6⟩
    have hK1 := hK0.more hb6
    clear hb6 hK0
    go_wp2_with fail
    go_ret
    exact ⟨rfl, hK1.below⟩
theorem size_eq (p : Pk) (A : Option Addr) (n c : Nat) (xs : List (List UInt8 × Int)) (v : Int) (w : World) (hG : Glo w) (hs : Subs w A n xs) (hf : Fit p xs) (h : sizR p xs = v) :
    Calls Tryd.prog 15 #[.agg (PkC p A n c)] w fun e w' => e = .returned (.int .i64 v) ∧ Below w.heap.size w w' := h ▸ size_any p A n c xs w hG hs hf
end Go.Proofs.YtncgkkhpcgdcaaaDoor
