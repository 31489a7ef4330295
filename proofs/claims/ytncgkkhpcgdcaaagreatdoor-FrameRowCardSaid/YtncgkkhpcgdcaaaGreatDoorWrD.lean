/-
  write: what stands ahead of a rest; all packets; one packet; its size.
-/
import Derived.Test.YtncgkkhpcgdcaaaGreatDoorWrB
import Derived.Test.YtncgkkhpcgdcaaaGreatDoorWrC
import Derived.Test.YtncgkkhpcgdcaaaGreatDoorWrInj
import Derived.Test.YtncgkkhpcgdcaaaGreatDoorPkG
import Derived.Deep.Cut
set_option linter.unusedSimpArgs false
set_option linter.unusedVariables false
namespace Go.Proofs.YtncgkkhpcgdcaaaGreatDoor
open Go.RowKit
set_option maxRecDepth 100000
/-- As Kb, whatever the bytes are. -/
def Kx (w0 : World) (b : Nat) (L : List (Nat × Array Value × TypeId)) (w : World) : Prop := ∃ l, Kb w0 b l L w
section
variable {w0 w w' : World} {b g : Nat} {l : List UInt8} {L : List (Nat × Array Value × TypeId)} {cs : Array Value} {t : TypeId}
theorem Kx.more (h : Kx w0 b L w) (hb : Below w.heap.size w w') : Kx w0 b L w' := by obtain ⟨l, h⟩ := h; exact ⟨l, h.more hb⟩
theorem Kx.tail {x : Nat × Array Value × TypeId} (h : Kx w0 b (x :: L) w) : Kx w0 b L w := by obtain ⟨l, h⟩ := h; exact ⟨l, h.tail⟩
theorem Kx.row (h : Kx w0 b ((g, cs, t) :: L) w) : rowAt w g = cs := by obtain ⟨l, h⟩ := h; exact h.row
theorem Kx.free (h : Kx w0 b ((g, cs, t) :: L) w) : freeB w g = true := by obtain ⟨l, h⟩ := h; exact h.free
theorem Kx.cell (h : Kx w0 b ((g, cs, t) :: L) w) : ∀ i, w.cell? ⟨g, i, none⟩ = cs[i]? := by obtain ⟨l, h⟩ := h; exact h.cell
theorem Kx.froz (h : Kx w0 b ((g, cs, t) :: L) w) : ∀ i, w.frozen? ⟨g, i, none⟩ = false := by obtain ⟨l, h⟩ := h; exact h.froz
theorem Kx.lt (h : Kx w0 b ((g, cs, t) :: L) w) : g < w.heap.size := by obtain ⟨l, h⟩ := h; exact h.lt
theorem numLenK (n : Int) (w : World) (h0 : 0 ≤ n) (h1 : n ≤ 268435455) :
    Calls Tryz.prog 66 #[.int .i64 n] w fun e w' => e = .returned (.tuple #[.string ⟨(lenL 3 n).toArray⟩, .int .i64 0]) ∧ Below w.heap.size w w' := numLen_yes n w h0 h1
set_option maxHeartbeats 2000000 in
theorem putHead_any (h : Kb w0 b l L w) (p : Pk) (A : Option Addr) (n c : Nat) (v : Int) (h0 : 0 ≤ v) (h1 : v ≤ 268435455) (t0 : 0 ≤ p.ty) (t1 : p.ty ≤ 14) (hq : p.ty = 3 → 0 ≤ p.qos ∧ p.qos ≤ 2) (f0 : 0 ≤ flagsN p) (f1 : flagsN p < 16) (hl : l.length ≤ 549755813888) :
    Calls Tryz.prog 39 #[.pointer (some ⟨b, 0, none⟩), .agg (PkC p A n c), .int .i64 v] w fun e w' => e = .returned (.tuple #[]) ∧ Kb w0 b (l ++ (toB (p.ty * 16 + flagsN p) :: lenL 3 v)) L w' := by
  have hK0 := h.new (PkC p A n c) 36 ne_pk
  have hw1 : IntKind.u8.wrap (p.ty * 16) = p.ty * 16 := IntWalk.u8_in _ (by omega)
  obtain ⟨fl, hfl⟩ : ∃ fl, flagsN p = fl := ⟨_, rfl⟩
  rw [hfl] at f0 f1 ⊢
  have HF := Lib.hid hfl
  have HQ := Lib.hid hq
  have hw2 : IntKind.u8.wrap (p.ty * 16 + fl) = p.ty * 16 + fl := IntWalk.u8_in _ (by omega)
  have hll := lenL_len 3 v
  clear h hq hfl
  go_enter Tryz.func39, Tryz.ntmps39
  go_wp2_with fail
  refine (numLenK v _ h0 h1).mono ?_
  rintro e w6 ⟨rfl, hb6⟩
  have hK1 := hK0.more hb6
  clear hb6 hK0
  go_wp2_with fail
  refine wp_region_held_drew (S := Kx w0 b ((w.heap.size, PkC p A n c, 36) :: L)) (by kernel_rfl) ⟨_, hK1.drew⟩ (fun hHeld => ?_)
  have hKl := hK1.drew
  clear hK1
  obtain ⟨wd, hwd⟩ : ∃ wd : World, wd = w6.drew := ⟨_, rfl⟩
  rw [← hwd] at hHeld hKl ⊢
  clear hwd
  refine wpAnyH_take (i := 0) (oi := ({ dst := some 13, op := Go.Op.move (Go.Operand.tmp 0), type := 76, pos := "write.go:74", after := #[], guard := none } : Oper)) (v := ?vw197) rfl (by kernel_rfl) (by kernel_rfl) (by kernel_rfl) (fun _ _ _ h => h) (Or.inl ⟨by rfl, ?hz197⟩) (by assumption) ?rs197
  case hz197 => (intro wz hSw; (try have hq1 := hSw.tail.cell); (try have hq2 := hSw.tail.tail.cell); (try have hq3 := hSw.cell); (try have hq4 := hSw.tail.row); (try have hq5 := hSw.tail.tail.row); (try have hq6 := hSw.row); (try have hq7 := hSw.tail.tail.tail.row); (try clear hSw); go_simp; all_goals with_reducible rfl)
  try simp only [Act.put, List.setIfInBounds_toArray, List.set_cons_zero, List.set_cons_succ]
  refine wpAnyH_take (i := 1) (oi := ({ dst := some 14, op := Go.Op.fieldAddr 36 (Go.Operand.tmp 4) 0, type := 0, pos := "write.go:74", after := #[], guard := none } : Oper)) (v := ?vw198) rfl (by kernel_rfl) (by kernel_rfl) (by kernel_rfl) (fun _ _ _ h => h) (Or.inl ⟨by rfl, ?hz198⟩) (by assumption) ?rs198
  case hz198 => (intro wz hSw; (try have hq1 := hSw.tail.cell); (try have hq2 := hSw.tail.tail.cell); (try have hq3 := hSw.cell); (try have hq4 := hSw.tail.row); (try have hq5 := hSw.tail.tail.row); (try have hq6 := hSw.row); (try have hq7 := hSw.tail.tail.tail.row); (try clear hSw); go_simp; all_goals with_reducible rfl)
  try simp only [Act.put, List.setIfInBounds_toArray, List.set_cons_zero, List.set_cons_succ]
  refine wpAnyH_take (i := 2) (oi := ({ dst := some 15, op := Go.Op.load 5 (Go.Operand.tmp 14), type := 5, pos := "write.go:74", after := #[{ on := 1, ground := Go.Ground.data }], guard := none } : Oper)) (v := ?vw199) rfl (by kernel_rfl) (by kernel_rfl) (by kernel_rfl) (fun _ _ _ h => h) (Or.inl ⟨by rfl, ?hz199⟩) (by assumption) ?rs199
  case hz199 => (intro wz hSw; (try have hq1 := hSw.tail.cell); (try have hq2 := hSw.tail.tail.cell); (try have hq3 := hSw.cell); (try have hq4 := hSw.tail.row); (try have hq5 := hSw.tail.tail.row); (try have hq6 := hSw.row); (try have hq7 := hSw.tail.tail.tail.row); (try clear hSw); go_simp; all_goals with_reducible rfl)
  try simp only [Act.put, List.setIfInBounds_toArray, List.set_cons_zero, List.set_cons_succ]
  refine wpAnyH_take (i := 3) (oi := ({ dst := some 16, op := Go.Op.binOp Go.BinOp.mul 5 (Go.Operand.tmp 15) (Go.Operand.const (Go.Value.int Go.IntKind.u8 16)) 5, type := 5, pos := "write.go:74", after := #[{ on := 2, ground := Go.Ground.data }], guard := none } : Oper)) (v := ?vw200) rfl (by kernel_rfl) (by kernel_rfl) (by kernel_rfl) (fun _ _ _ h => h) (Or.inl ⟨by rfl, ?hz200⟩) (by assumption) ?rs200
  case hz200 => (intro wz hSw; (try have hq1 := hSw.tail.cell); (try have hq2 := hSw.tail.tail.cell); (try have hq3 := hSw.cell); (try have hq4 := hSw.tail.row); (try have hq5 := hSw.tail.tail.row); (try have hq6 := hSw.row); (try have hq7 := hSw.tail.tail.tail.row); (try clear hSw); go_simp; all_goals with_reducible rfl)
  try simp only [Act.put, List.setIfInBounds_toArray, List.set_cons_zero, List.set_cons_succ]
  refine wpAnyH_take (i := 4) (oi := ({ dst := some 17, op := Go.Op.load 36 (Go.Operand.tmp 4), type := 36, pos := "write.go:74", after := #[], guard := none } : Oper)) (v := ?vw201) rfl (by kernel_rfl) (by kernel_rfl) (by kernel_rfl) (fun _ _ _ h => h) (Or.inl ⟨by rfl, ?hz201⟩) (by assumption) ?rs201
  case hz201 => (intro wz hSw; (try have hq1 := hSw.tail.cell); (try have hq2 := hSw.tail.tail.cell); (try have hq3 := hSw.cell); (try have hq4 := hSw.tail.row); (try have hq5 := hSw.tail.tail.row); (try have hq6 := hSw.row); (try have hq7 := hSw.tail.tail.tail.row); (try clear hSw); go_simp; all_goals with_reducible rfl)
  try simp only [Act.put, List.setIfInBounds_toArray, List.set_cons_zero, List.set_cons_succ]
  refine wpAnyH_ready (rs := [5]) (by kernel_rfl) (by simp) ?_
  refine (AllReadyH.cons (o := ({ dst := some 18, op := Go.Op.call { callee := Go.Callee.value (Go.Operand.func 68), args := #[Go.Operand.tmp 17], argTypes := #[36] }, type := 5, pos := "write.go:74", after := #[{ on := 4, ground := Go.Ground.data }], guard := none } : Oper)) rfl (fun K hK => ?_) AllReadyH.nil)
  go_simp
  (go_at_call 68; refine (flagsOf_eq p A n c fl _ HQ.out HF.out).mono ?_; rintro e w6 ⟨rfl, hb6⟩; replace hKl := hKl.more hb6)
  refine hK.out _ _ (by first | exact hHeld.more hb6 | exact hHeld | exact ⟨_, hK9⟩ | exact below_more hHeld hb6) (fun hHeld1 => ?_)
  clear hHeld; have hHeld := hHeld1; clear hHeld1 hK K
  try simp only [Act.put, List.setIfInBounds_toArray, List.set_cons_zero, List.set_cons_succ]
  refine wpAnyH_take (i := 6) (oi := ({ dst := some 19, op := Go.Op.binOp Go.BinOp.add 5 (Go.Operand.tmp 16) (Go.Operand.tmp 18) 5, type := 5, pos := "write.go:74", after := #[{ on := 3, ground := Go.Ground.data }, { on := 5, ground := Go.Ground.data }], guard := none } : Oper)) (v := ?vw202) rfl (by kernel_rfl) (by kernel_rfl) (by kernel_rfl) (fun _ _ _ h => h) (Or.inl ⟨by rfl, ?hz202⟩) (by assumption) ?rs202
  case hz202 => (intro wz hSw; (try have hq1 := hSw.tail.cell); (try have hq2 := hSw.tail.tail.cell); (try have hq3 := hSw.cell); (try have hq4 := hSw.tail.row); (try have hq5 := hSw.tail.tail.row); (try have hq6 := hSw.row); (try have hq7 := hSw.tail.tail.tail.row); (try clear hSw); go_simp; all_goals with_reducible rfl)
  try simp only [Act.put, List.setIfInBounds_toArray, List.set_cons_zero, List.set_cons_succ]
  refine wpAnyH_ready (rs := [7]) (by kernel_rfl) (by simp) ?_
  refine (AllReadyH.cons (o := ({ dst := some 20, op := Go.Op.call { callee := Go.Callee.value (Go.Operand.func 67), args := #[Go.Operand.tmp 13, Go.Operand.tmp 19], argTypes := #[76, 5] }, type := 106, pos := "write.go:74", after := #[{ on := 0, ground := Go.Ground.data }, { on := 6, ground := Go.Ground.data }, { on := 5, ground := Go.Ground.chain }], guard := none } : Oper)) rfl (fun K hK => ?_) AllReadyH.nil)
  go_simp
  (go_at_call 67; refine (wByte hKl (p.ty * 16 + fl) (by omega) (by omega) (by omega)).mono ?_; rintro e w6 ⟨rfl, hK9⟩)
  refine hK.out _ _ (by first | exact hHeld.more hb6 | exact hHeld | exact ⟨_, hK9⟩ | exact below_more hHeld hb6) (fun hHeld1 => ?_)
  clear hHeld; have hHeld := hHeld1; clear hHeld1 hK K
  try simp only [Act.put, List.setIfInBounds_toArray, List.set_cons_zero, List.set_cons_succ]
  refine wpAnyH_done (by kernel_rfl) ?_ _
  go_wp2_with fail
  refine (wStr hK9 (lenL 3 v) (by omega) (by simp only [List.length_append, List.length_cons, List.length_nil]; omega)).mono ?_
  rintro e w7 ⟨rfl, hK2⟩
  go_wp2_with fail
  go_end0
  exact ⟨rfl, by simpa only [List.append_assoc, List.cons_append, List.nil_append] using hK2.tail⟩
end
/-- A packet with its Subs. -/
abbrev PX : Type := Pk × List (List UInt8 × Int)
/-- A slice of packets reads as ps. -/
def Pks (w : World) (A : Option Addr) (n : Nat) (ps : List PX) : Prop :=
  ps.length = n ∧ (0 < n → ∃ b off, A = some ⟨b, off, none⟩ ∧ b < w.heap.size ∧ ∀ j x, ps[j]? = some x → off + j * 24 + 24 ≤ (rowAt w b).size ∧ ∃ A' n' c', (rowAt w b).extract (off + j * 24) (off + j * 24 + 24) = PkC x.1 A' n' c' ∧ Subs w A' n' x.2 ∧ (A' = none → c' = 0))
section
variable {w w' : World} {A : Option Addr} {n : Nat} {ps : List PX}
theorem Pks.len (h : Pks w A n ps) : ps.length = n := h.1
theorem Pks.below (h : Pks w A n ps) (hb : Below w.heap.size w w') : Pks w' A n ps :=
  ⟨h.1, fun hn => by
    obtain ⟨b, off, e, hlt, hc⟩ := h.2 hn
    refine ⟨b, off, e, Nat.lt_of_lt_of_le hlt hb.size, fun j x hx => ?_⟩
    obtain ⟨h1, A', n', c', h2, h3, h4⟩ := hc j x hx
    rw [rowAt_below hb hlt]
    exact ⟨h1, A', n', c', h2, h3.below hb, h4⟩⟩
theorem Pks.at_ (h : Pks w A n ps) {k : Nat} (hk : k < n) : ∃ b off x A' n' c', A = some ⟨b, off, none⟩ ∧ ps[k]? = some x ∧ b < w.heap.size ∧ off + k * 24 + 24 ≤ (rowAt w b).size ∧ (rowAt w b).extract (off + k * 24) (off + k * 24 + 24) = PkC x.1 A' n' c' ∧ Subs w A' n' x.2 ∧ (A' = none → c' = 0) := by
  obtain ⟨b, off, e, hlt, hc⟩ := h.2 (by omega)
  have hl : k < ps.length := by rw [h.1]; exact hk
  obtain ⟨h1, A', n', c', h2, h3, h4⟩ := hc k ps[k] (List.getElem?_eq_getElem hl)
  exact ⟨b, off, ps[k], A', n', c', e, List.getElem?_eq_getElem hl, hlt, h1, h2, h3, h4⟩
theorem Pks.nil (A : Option Addr) : Pks w A 0 [] := ⟨rfl, fun h => by omega⟩
theorem pks_one {g : Nat} {p : Pk} {A : Option Addr} {n c : Nat} {xs : List (List UInt8 × Int)} (h : rowAt w g = PkC p A n c) (hg : g < w.heap.size) (hs : Subs w A n xs) (hc : A = none → c = 0) : Pks w (some ⟨g, 0, none⟩) 1 [(p, xs)] := by
  refine ⟨rfl, fun _ => ⟨g, 0, rfl, hg, fun j x hx => ?_⟩⟩
  match j, hx with
  | 0, hx =>
    cases hx
    rw [h]
    exact ⟨by simp, A, n, c, by simp only [Nat.zero_mul, Nat.zero_add]; exact PkC_all, hs, hc⟩
  | j + 1, hx => simp at hx
end
@[go_sem] theorem foldl_PkC (p q : Pk) (A B : Option Addr) (n c m d : Nat) : Array.foldl (fun (cs : Array Value) (x : Value × Nat) => cs.setIfInBounds x.snd x.fst) (PkC p A n c) (PkC q B m d).zipIdx 0 24 = PkC q B m d := by simp [PkC]
@[go_sem] theorem foldl_SbC (a f : List UInt8) (b q : Int) : Array.foldl (fun (cs : Array Value) (x : Value × Nat) => cs.setIfInBounds x.snd x.fst) (SbC a b) (SbC f q).zipIdx 0 2 = SbC f q := by simp [SbC]
theorem subs_one {w : World} {g : Nat} {f : List UInt8} {q : Int} (h : rowAt w g = SbC f q) (hg : g < w.heap.size) : Subs w (some ⟨g, 0, none⟩) 1 [(f, q)] := by
  refine ⟨rfl, fun _ => ⟨g, 0, rfl, hg, fun j x hx => ?_⟩⟩
  match j, hx with
  | 0, hx =>
    cases hx
    rw [h]
    exact ⟨by simp, by simp⟩
  | j + 1, hx => simp at hx
def okB (x : PX) : Bool := decide (0 ≤ restN x.1 x.2)
def encP (x : PX) : List UInt8 := encL x.1 x.2
/-- What All answers. -/
def allR (ps : List PX) : List UInt8 × Int := if ps.all okB then (ps.flatMap encP, 0) else ([], 4)
theorem all_no' (ps : List PX) (k : Nat) (x : PX) (hx : ps[k]? = some x) (h : okB x = false) : allR ps = ([], 4) := by
  unfold allR
  rw [if_neg]
  intro hh
  rw [List.all_eq_true] at hh
  have := hh x (List.mem_of_getElem? hx)
  rw [h] at this
  cases this
theorem all_yes' (ps : List PX) (h : ps.all okB = true) : allR ps = (ps.flatMap encP, 0) := by unfold allR; rw [if_pos h]
theorem enc_snoc (ps : List PX) (k : Nat) (x : PX) (hx : ps[k]? = some x) : (ps.take (k + 1)).flatMap encP = (ps.take k).flatMap encP ++ encP x := by
  rw [List.take_add_one, hx]; simp
theorem ok_snoc (ps : List PX) (k : Nat) (x : PX) (hx : ps[k]? = some x) (h : okB x = true) (hk : (ps.take k).all okB = true) : (ps.take (k + 1)).all okB = true := by
  rw [List.take_add_one, hx, List.all_append, hk]; simp [h]
theorem okB_ok {x : PX} (h : okB x = true) : Ok x.1 x.2 := ok_of (by simpa [okB] using h)
theorem encP_len {x : PX} (h : okB x = true) : (encP x).length ≤ 268435460 := by
  have h1 := enc_len (okB_ok h)
  have h2 := sizeF_bd (restN x.1 x.2)
  have h3 := (okB_ok h).hi
  show (encL x.1 x.2).length ≤ _
  omega
theorem encs_len (ps : List PX) (h : ps.all okB = true) : (ps.flatMap encP).length ≤ 268435460 * ps.length := by
  induction ps with
  | nil => simp
  | cons x r ih =>
    rw [List.all_cons, Bool.and_eq_true] at h
    have h1 := ih h.2
    have h2 := encP_len h.1
    simp only [List.flatMap_cons, List.length_append, List.length_cons]
    omega
theorem kb_start (w : World) : Kb w w.heap.size [] [] (w.alloc (.cells #[.pointer none, .slice none 0 0] 78)) :=
  ⟨fun x hx => (by cases hx), Lib.fresh_isBuilder _ _ w, (Below.refl _ _).alloc (Nat.le_refl _) _⟩
set_option maxHeartbeats 4000000 in
theorem all_any (A : Option Addr) (n c : Nat) (ps : List PX) (w : World) (hG : Glo w) (hs : Pks w A n ps) (hn : n ≤ 50) (hf : ∀ x ∈ ps, Fit x.1 x.2) :
    Calls Tryz.prog 28 #[.slice A n c] w fun e w' => e = .returned (.tuple #[.string ⟨(allR ps).1.toArray⟩, .int .i64 (allR ps).2]) ∧ Below w.heap.size w w' := by
  have hK0 := kb_start w
  have HG := Lib.hid hG
  have HS := Lib.hid hs
  have HF := Lib.hid hf
  have hlen := hs.len
  clear hG hs hf
  go_enter Tryz.func28, Tryz.ntmps28
  go_wp2_with fail
  go_loopw [10] (fun i wr => ∃ k : Nat, i = .int .i64 k ∧ k ≤ n ∧ Kb w w.heap.size ((ps.take k).flatMap encP) [] wr ∧ Hid ((ps.take k).all okB = true)) (fun i _ => n - (intOf i).toNat)
  case atStart => exact ⟨0, rfl, by omega, by simpa using hK0, rfl⟩
  case round =>
    clear hK0
    obtain ⟨k, rfl, hk, hK, HOK⟩ := hrel
    have hsz := encs_len _ HOK.out
    rw [List.length_take, Nat.min_eq_left (by omega)] at hsz
    by_cases hlt : k < n
    · have hlt2 : (k : Int) < (n : Int) := by omega
      have hS2 := HS.out.below hK.below
      obtain ⟨bx, off, x, A', n', c', rfl, hxk, hbx, hrs, hex, hsub, hc'⟩ := hS2.at_ hlt
      have HSUB : Hid (Subs w A' n' x.2) := by
        obtain ⟨b2, off2, x2, A2, n2, c2, e2, hx2, hb2, _, hex2, hsub2, _⟩ := HS.out.at_ hlt
        cases e2
        rw [hxk] at hx2
        cases hx2
        rw [rowAt_below hK.below hb2] at hex
        rw [hex2] at hex
        have h22 := congrArg (fun a => a[22]?) hex
        simp only [PkC_22, Option.some.injEq, Value.slice.injEq] at h22
        obtain ⟨h1, h2, _⟩ := h22
        subst h1 h2
        exact hsub2
      have HFX := Lib.hid (HF.out x (List.mem_of_getElem? hxk))
      have hK1 := hK.new (PkC x.1 A' n' c') 36 ne_pk
      have HXK := Lib.hid hxk
      clear hxk hsub hc' hS2 hK
      cases hok : okB x with
      | false =>
        have HR : Hid (allR ps = ([], 4)) := all_no' ps k x HXK.out hok
        obtain ⟨v, hv⟩ : ∃ v, restN x.1 x.2 = v := ⟨_, rfl⟩
        have hv0 : v < 0 := by rw [← hv]; simpa [okB] using hok
        have HV := Lib.hid hv
        clear hok hv
        go_wp2_with fail
        refine (rest_eq x.1 A' n' c' x.2 v _ (HG.out.below hK1.below) (HSUB.out.below hK1.below) HFX.out HV.out).mono ?_
        rintro e w6 ⟨rfl, hb6⟩
        have hK2 := hK1.more hb6
        clear hb6 hK1
        go_wp2_with fail
        go_ret2
        exact ⟨by rw [HR.out]; rfl, hK2.below⟩
      | true =>
        have hO := okB_ok hok
        obtain ⟨v, hv⟩ : ∃ v, restN x.1 x.2 = v := ⟨_, rfl⟩
        have hv0 : 0 ≤ v := by rw [← hv]; exact hO.lo
        have hv1 : v ≤ 268435455 := by rw [← hv]; exact hO.hi
        have hvs := sizeF_bd v
        have HV := Lib.hid hv
        have HO := Lib.hid hO
        have HSN := Lib.hid (enc_snoc ps k x HXK.out)
        have HOS := Lib.hid (ok_snoc ps k x HXK.out hok HOK.out)
        have fb := flags_bd hO HFX.out.num'
        have hty := hO.ty
        have ty0 : 0 ≤ x.1.ty := by omega
        have ty1 : x.1.ty ≤ 14 := by omega
        have hqs : Hid (x.1.ty = 3 → 0 ≤ x.1.qos ∧ x.1.qos ≤ 2) := fun e => ⟨HFX.out.qos.1, (pub_qos HO.out e).1⟩
        have hll := lenL_len 3 v
        clear hok hv hO hty
        go_wp2_with fail
        refine (rest_eq x.1 A' n' c' x.2 v _ (HG.out.below hK1.below) (HSUB.out.below hK1.below) HFX.out HV.out).mono ?_
        rintro e w6 ⟨rfl, hb6⟩
        have hK2 := hK1.more hb6
        clear hb6 hK1
        have a1r := hK2.row; have a1f := hK2.free; have a1c := hK2.cell; have a1l := hK2.lt; have a1z := hK2.froz
        go_wp2_with fail
        refine (sizeOf_any v _ hv0 hv1).mono ?_
        rintro e w7 ⟨rfl, rfl⟩
        go_wp2_with fail
        refine (wGrow hK2 (1 + sizeF v + v) (by omega) (by omega) (by omega)).mono ?_
        rintro e w7 ⟨rfl, hK3⟩
        clear hK2 a1r a1f a1c a1z a1l
        have a1r := hK3.row; have a1f := hK3.free; have a1c := hK3.cell; have a1l := hK3.lt; have a1z := hK3.froz
        go_wp2_with fail
        refine (putHead_any hK3 x.1 A' n' c' v hv0 hv1 ty0 ty1 hqs.out fb.1 fb.2 (by omega)).mono ?_
        rintro e w7 ⟨rfl, hK4⟩
        clear hK3 a1r a1f a1c a1z a1l
        have a1r := hK4.row; have a1f := hK4.free; have a1c := hK4.cell; have a1l := hK4.lt; have a1z := hK4.froz
        go_wp2_with fail
        refine (putRest_any hK4 x.1 A' n' c' x.2 HSUB.out HFX.out HO.out (by simp only [List.length_append, List.length_cons]; omega)).mono ?_
        rintro e w7 ⟨rfl, hK5⟩
        clear hK4 a1r a1f a1c a1z a1l
        have HE : Hid (encP x = toB (x.1.ty * 16 + flagsN x.1) :: (lenL 3 v ++ bodyL x.1 x.2)) := by show encL _ _ = _; unfold encL; rw [HV.out]
        go_wp2_with fail
        go_roundw
        case rel => exact ⟨k + 1, by go_num, by omega, by rw [HSN.out, HE.out]; simpa only [List.append_assoc, List.cons_append] using hK5.tail, HOS.out⟩
        case measure => simp [intOf]; omega
    · have hge : ¬ (k : Int) < (n : Int) := by omega
      have hke : ps.take k = ps := List.take_of_length_le (by omega)
      rw [hke] at hK HOK
      have HR : Hid (allR ps = (ps.flatMap encP, 0)) := all_yes' ps HOK.out
      clear hke hsz
      go_wp2_with fail
      refine (wString hK).mono ?_
      rintro e w7 ⟨rfl, hb7⟩
      go_wp2_with fail
      go_ret2
      exact ⟨by rw [HR.out]; rfl, hb7⟩
theorem all_eq (A : Option Addr) (n c : Nat) (ps : List PX) (bs : List UInt8) (er : Int) (w : World) (hG : Glo w) (hs : Pks w A n ps) (hn : n ≤ 50) (hf : ∀ x ∈ ps, Fit x.1 x.2) (h : allR ps = (bs, er)) :
    Calls Tryz.prog 28 #[.slice A n c] w fun e w' => e = .returned (.tuple #[.string ⟨bs.toArray⟩, .int .i64 er]) ∧ Below w.heap.size w w' := by
  have := all_any A n c ps w hG hs hn hf
  rw [h] at this
  exact this
/-- What Encode answers. -/
def encR (p : Pk) (xs : List (List UInt8 × Int)) : List UInt8 × Int := if 0 ≤ restN p xs then (encL p xs, 0) else ([], 4)
theorem all_one (p : Pk) (xs : List (List UInt8 × Int)) : allR [(p, xs)] = encR p xs := by
  unfold allR encR okB encP
  by_cases h : 0 ≤ restN p xs <;> simp [h]
theorem encode_any (p : Pk) (A : Option Addr) (n c : Nat) (xs : List (List UInt8 × Int)) (w : World) (hG : Glo w) (hs : Subs w A n xs) (hc : A = none → c = 0) (hf : Fit p xs) :
    Calls Tryz.prog 16 #[.agg (PkC p A n c)] w fun e w' => e = .returned (.tuple #[.string ⟨(encR p xs).1.toArray⟩, .int .i64 (encR p xs).2]) ∧ Below w.heap.size w w' := by
  obtain ⟨bs, er, hr⟩ : ∃ bs er, encR p xs = (bs, er) := ⟨_, _, rfl⟩
  rw [hr]
  have HR : Hid (allR [(p, xs)] = (bs, er)) := by show _ = _; rw [all_one, hr]
  have hK0 := ((Kp.nil w).new (PkC p A n c) 36).new (PkC p A n c) 36
  simp only [World.size_alloc] at hK0
  have HG := Lib.hid hG
  have HS := Lib.hid hs
  have HF := Lib.hid hf
  have HC := Lib.hid hc
  clear hG hs hf hr hc
  go_enter Tryz.func16, Tryz.ntmps16
  go_wp2_with fail
  refine (all_eq _ 1 _ [(p, xs)] bs er _ (HG.out.below hK0.below) (pks_one hK0.row hK0.lt (HS.out.below hK0.below) HC.out) (by omega) (by intro x hx; simp at hx; subst hx; exact HF.out) HR.out).mono ?_
  rintro e w6 ⟨rfl, hb6⟩
  have hK1 := hK0.more hb6
  go_wp2_with fail
  go_ret2
  exact ⟨rfl, hK1.below⟩
theorem encode_eq (p : Pk) (A : Option Addr) (n c : Nat) (xs : List (List UInt8 × Int)) (bs : List UInt8) (er : Int) (w : World) (hG : Glo w) (hs : Subs w A n xs) (hc : A = none → c = 0) (hf : Fit p xs) (h : encR p xs = (bs, er)) :
    Calls Tryz.prog 16 #[.agg (PkC p A n c)] w fun e w' => e = .returned (.tuple #[.string ⟨bs.toArray⟩, .int .i64 er]) ∧ Below w.heap.size w w' := by
  have := encode_any p A n c xs w hG hs hc hf
  rw [h] at this
  exact this
/-- What Size answers. -/
def sizR (p : Pk) (xs : List (List UInt8 × Int)) : Int := if 0 ≤ restN p xs then 1 + sizeF (restN p xs) + restN p xs else 0
end Go.Proofs.YtncgkkhpcgdcaaaGreatDoor
