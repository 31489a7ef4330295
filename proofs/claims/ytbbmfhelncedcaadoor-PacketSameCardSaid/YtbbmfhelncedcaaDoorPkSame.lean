/-
  PacketSame.
-/
import Derived.Test.YtbbmfhelncedcaaDoorPkJ
import Derived.Test.YtbbmfhelncedcaaDoorPkGreat
import Derived.Test.YtbbmfhelncedcaaDoorPkW
import Derived.Test.YtbbmfhelncedcaaDoorPkX
import Derived.Deep.Cut
import Derived.Deep.DeepCutAuto
set_option linter.unusedSimpArgs false
set_option linter.unusedVariables false
namespace Go.Proofs.YtbbmfhelncedcaaDoor
open Go.RowKit
namespace lawPacketSame
/-- As Kp, and all that lay in wd lies as it lay. -/
structure Kd (w wd : World) (L : List (Nat × Array Value × TypeId)) (w' : World) : Prop where
  kp : Kp w L w'
  bl : Below wd.heap.size wd w'
section
variable {w wd w' w6 : World} {L : List (Nat × Array Value × TypeId)} {g : Nat} {cs : Array Value} {t : TypeId}
theorem Kd.more (h : Kd w wd L w') (hb : Below w'.heap.size w' w6) : Kd w wd L w6 := ⟨h.kp.more hb, below_more h.bl hb⟩
theorem Kd.drew (h : Kd w wd L w') : Kd w wd L w'.drew := ⟨h.kp.drew, h.bl.drew⟩
theorem Kd.tail {x : Nat × Array Value × TypeId} (h : Kd w wd (x :: L) w') : Kd w wd L w' := ⟨h.kp.tail, h.bl⟩
theorem Kd.below (h : Kd w wd L w') : Below w.heap.size w w' := h.kp.below
theorem Kd.row (h : Kd w wd ((g, cs, t) :: L) w') : rowAt w' g = cs := h.kp.row
theorem Kd.cell (h : Kd w wd ((g, cs, t) :: L) w') : ∀ i, w'.cell? ⟨g, i, none⟩ = cs[i]? := h.kp.cell
theorem Kp_other (h : Kp w L w') (hB : w.heap.size ≤ g) (hne : ∀ x ∈ L, x.1 ≠ g) (cs' : Array Value) : Kp w L (w'.setRow g cs') :=
  ⟨fun x hx => ⟨(h.rows x hx).1, (setRow_other w' g x.1 cs' (hne x hx)).trans (h.rows x hx).2⟩, below_setRow h.below hB cs'⟩
end
/-- Where the packet's own row of subs lies: within the blocks from lo to hi. -/
def OB (w : World) (lo hi : Nat) (A : Option Addr) (n : Nat) : Prop := (A = none ∧ n = 0) ∨ ∃ g cur, A = some ⟨g, 0, none⟩ ∧ lo ≤ g ∧ g < hi ∧ w.heap[g]? = some (.cells cur 31 (0, 0)) ∧ n * 2 ≤ cur.size
theorem OB.below {w w' : World} {lo hi n : Nat} {A : Option Addr} (h : OB w lo hi A n) (hb : Below w.heap.size w w') : OB w' lo hi A n := by
  rcases h with h | ⟨g, cur, e, h1, h2, h3, h4⟩
  · exact .inl h
  · exact .inr ⟨g, cur, e, h1, h2, (hb.block g (Array.getElem?_eq_some_iff.1 h3).1).trans h3, h4⟩
theorem same_comm (p q : Pk) (xs ys : List (List UInt8 × Int)) : (eqPk q p && ys == xs) = (eqPk p q && xs == ys) := by
  rw [Bool.eq_iff_iff]
  simp only [Bool.and_eq_true, eqPk_iff, beq_iff_eq]
  exact ⟨fun ⟨a, b⟩ => ⟨a.symm, b.symm⟩, fun ⟨a, b⟩ => ⟨a.symm, b.symm⟩⟩
set_option maxRecDepth 100000 in
set_option maxHeartbeats 4000000 in
theorem walk (w : World) (hG : Glo w) (p : Pk) (A : Option Addr) (n c : Nat) (xs : List (List UInt8 × Int)) (hs : Subs w A n xs) (hc : A = none → c = 0) (hp : Came p xs)
    (q : Pk) (B : Option Addr) (m d : Nat) (ys : List (List UInt8 × Int)) (hs2 : Subs w B m ys) (hc2 : B = none → d = 0) (hp2 : Came q ys) (like : Bool) :
    Calls Tryd.prog 5 #[.agg (PkC p A n c), .agg (PkC q B m d), .bool like] w fun e w' => e = .returned (.bool true) ∧ Below w.heap.size w w' := by
  have hK0 := (((Kp.nil w).new (PkC p A n c) 27).new (PkC q B m d) 27).swap
  simp only [World.size_alloc] at hK0
  have HG := Lib.hid hG
  have HS := Lib.hid hs
  have HS2 := Lib.hid hs2
  have HC := Lib.hid hp
  have HC2 := Lib.hid hp2
  have HA := Lib.hid hc
  have hxl := Lib.hid hs.len
  have hyl := Lib.hid hs2.len
  clear hG hs hp hc hs2 hp2 hc2
  go_enter Tryd.func5, Tryd.ntmps5
  go_wp2_with fail
  refine (great_any p A n c xs _ (HS.out.below hK0.below) HC.out).mono ?_
  rintro e w6 ⟨g, rfl, hgr, hb6⟩
  have hP := hK0.more hb6
  clear hb6 hK0
  have p1r := hP.row; have p1f := hP.free; have p1c := hP.cell; have p1l := hP.lt; have p1z := hP.froz
  have p2r := hP.tail.row; have p2f := hP.tail.free; have p2c := hP.tail.cell; have p2l := hP.tail.lt; have p2z := hP.tail.froz
  cases g with
  | true =>
    clear hgr
    go_wp2_with fail
    refine (awake_any _ (HG.out.below hP.below)).mono ?_
    rintro e w7 ⟨rfl, hb7⟩
    go_wp2_with fail
    go_ret
    exact ⟨rfl, below_more hP.below hb7⟩
  | false =>
    have hg1 := Lib.hid (hgr rfl)
    clear hgr
    go_wp2_with fail
    refine (great_any q B m d ys _ (HS2.out.below hP.below) HC2.out).mono ?_
    rintro e w7 ⟨g, rfl, hgr, hb7⟩
    have hQ := hP.more hb7
    clear hb7 hP p1r p1f p1c p1z p1l p2r p2f p2c p2z p2l
    have p1r := hQ.row; have p1f := hQ.free; have p1c := hQ.cell; have p1l := hQ.lt; have p1z := hQ.froz
    have p2r := hQ.tail.row; have p2f := hQ.tail.free; have p2c := hQ.tail.cell; have p2l := hQ.tail.lt; have p2z := hQ.tail.froz
    cases g with
    | true =>
      clear hgr
      go_wp2_with fail
      refine (awake_any _ (HG.out.below hQ.below)).mono ?_
      rintro e w8 ⟨rfl, hb8⟩
      go_wp2_with fail
      go_ret
      exact ⟨rfl, below_more hQ.below hb8⟩
    | false =>
    have hg2 := Lib.hid (hgr rfl)
    clear hgr
    have hn : n ≤ 100 := by have h1 := hg1.out.2; have h2 := hxl.out; omega
    have hm : m ≤ 100 := by have h1 := hg2.out.2; have h2 := hyl.out; omega
    clear hg1 hg2
    cases like with
    | true =>
    go_wp2_with fail
    refine (refCopy_any p A n c xs _ (HS.out.below hQ.below) HA.out (by omega)).mono ?_
    rintro e w8 ⟨A1, c1, rfl, hb8, hN8⟩
    have hK8 := hQ.more hb8
    have HN8 := Lib.hid hN8
    have hle8 : w.heap.size + 1 < w7.heap.size := p2l
    clear p1r p1f p1c p1z p1l p2r p2f p2c p2z p2l hb8 hQ hN8
    have p1r := hK8.row; have p1f := hK8.free; have p1c := hK8.cell; have p1l := hK8.lt; have p1z := hK8.froz
    have p2r := hK8.tail.row; have p2f := hK8.tail.free; have p2c := hK8.tail.cell; have p2l := hK8.tail.lt; have p2z := hK8.tail.froz
    go_upto_region 5 with fail
    have hK9 := (hK8.swap.set (by intro x hx; simp at hx; subst hx; simp) (PkC p A1 n c1)).swap
    obtain ⟨wx, hwx⟩ : ∃ wx : World, wx = w8.setRow (w.heap.size + 1) (PkC p A1 n c1) := ⟨_, rfl⟩
    have hY9 : Subs (w8.setRow (w.heap.size + 1) (PkC p A1 n c1)) A1 n xs := HN8.out.subs.1.set (fun b o e => by have := HN8.out.subs.2.2 b o e; omega) _
    rw [← hwx] at hK9 hY9 ⊢
    clear hwx p1r p1f p1c p1z p1l p2r p2f p2c p2z p2l hK8 HN8 hle8
    obtain ⟨q2, B2, m2, d2, ys2, hKx, hYx, hm2⟩ : ∃ q2 B2 m2 d2 ys2, Kp w [(w.heap.size, PkC p A n c, 27), (w.heap.size + 1, PkC q2 B2 m2 d2, 27)] wx ∧ Hid (Subs wx B2 m2 ys2) ∧ m2 ≤ 100 := ⟨p, A1, n, c1, xs, hK9, hY9, hn⟩
    clear hK9 hY9
    have p1r := hKx.row; have p1f := hKx.free; have p1c := hKx.cell; have p1l := hKx.lt; have p1z := hKx.froz
    have p2r := hKx.tail.row; have p2f := hKx.tail.free; have p2c := hKx.tail.cell; have p2l := hKx.tail.lt; have p2z := hKx.tail.froz
    go_wp2_with fail
    refine (refCopy_any p A n c xs _ (HS.out.below hKx.below) HA.out (by omega)).mono ?_
    rintro e w10 ⟨A2, c2, rfl, hb10, hN10⟩
    clear p1r p1f p1c p1z p1l p2r p2f p2c p2z p2l

    have hY10 := Lib.hid (hYx.out.below hb10)
    have hK10 := hKx.more hb10
    have HN := Lib.hid hN10
    have hlt10 : wx.heap.size ≤ w10.heap.size := hb10.size
    clear hb10 hN10 hYx
    have z1r := hKx.row; have z1f := hKx.free; have z1c := hKx.cell; have z1l := hKx.lt; have z1z := hKx.froz
    have z2r := hKx.tail.row; have z2f := hKx.tail.free; have z2c := hKx.tail.cell; have z2l := hKx.tail.lt; have z2z := hKx.tail.froz
    clear z1r z1f z1c z1z z2r z2f z2c z2z hKx
    have a1r := hK10.row; have a1f := hK10.free; have a1c := hK10.cell; have a1l := hK10.lt; have a1z := hK10.froz
    have a2r := hK10.tail.row; have a2f := hK10.tail.free; have a2c := hK10.tail.cell; have a2l := hK10.tail.lt; have a2z := hK10.tail.froz
    go_upto_region 6 with fail
    obtain ⟨w11, hw11⟩ : ∃ w11 : World, w11 = w10.alloc (.cells (PkC p A2 n c2) 27) := ⟨_, rfl⟩
    have hK11 := hK10.new (PkC p A2 n c2) 27
    have hb11 : Below w10.heap.size w10 (w10.alloc (.cells (PkC p A2 n c2) 27)) := (Below.refl _ _).alloc (Nat.le_refl _) _
    have hOB10 : OB w10 (w.heap.size + 2) w10.heap.size A2 n := by
      rcases HN.out.blk with h | ⟨g, cur, e, h1, h2, h3⟩
      · exact .inl h
      · exact .inr ⟨g, cur, e, by omega, (Array.getElem?_eq_some_iff.1 h2).1, h2, h3⟩
    have hS11 := Lib.hid (HN.out.subs.1.below hb11)
    have hC11 := Lib.hid HN.out.subs.2.1
    have hY11 := Lib.hid (hY10.out.below hb11)
    have hOB11 := Lib.hid (hOB10.below hb11)
    have hsz11 : w11.heap.size = w10.heap.size + 1 := by rw [hw11]; simp
    rw [← hw11] at hK11 hS11 hY11 hOB11 ⊢
    have hlt10b := Lib.hid hlt10
    have hsz := Lib.hid hsz11
    have hwlt : w.heap.size + 1 < w10.heap.size := a2l
    clear hw11 hb11 a1r a1f a1c a1z a1l a2r a2f a2c a2z a2l hK10 hOB10 HN hY10 hlt10 hsz11
    generalize w10.heap.size = h1 at *
    have a1r := hK11.row; have a1f := hK11.free; have a1c := hK11.cell; have a1l := hK11.lt; have a1z := hK11.froz
    have a2r := hK11.tail.row; have a2f := hK11.tail.free; have a2c := hK11.tail.cell; have a2l := hK11.tail.lt; have a2z := hK11.tail.froz
    have a3r := hK11.tail.tail.row; have a3f := hK11.tail.tail.free; have a3c := hK11.tail.tail.cell; have a3l := hK11.tail.tail.lt; have a3z := hK11.tail.tail.froz
    go_wp2_with fail
    refine (copy_any p A2 n c2 xs _ hS11.out hC11.out (by omega)).mono ?_
    rintro e w12 ⟨A3, c3, rfl, hb12, hS12, hc12, hlo12⟩
    have HLO : Hid (∀ b o, A3 = some ⟨b, o, none⟩ → h1 < b) := fun b o e => by have h5 := hlo12 b o e; have h6 := hsz.out; omega
    have hK12 := hK11.more hb12
    have hY12 := Lib.hid (hY11.out.below hb12)
    have hOB12 := Lib.hid (hOB11.out.below hb12)
    have hs12 := Lib.hid hb12.size
    have HS12 := Lib.hid hS12
    clear hb12 hlo12 hc12 hS12 a1r a1f a1c a1z a1l a2r a2f a2c a2z a2l a3r a3f a3c a3z a3l hK11 hY11 hOB11 hS11 hC11
    have a1r := hK12.row; have a1f := hK12.free; have a1c := hK12.cell; have a1l := hK12.lt; have a1z := hK12.froz
    have a2r := hK12.tail.row; have a2f := hK12.tail.free; have a2c := hK12.tail.cell; have a2l := hK12.tail.lt; have a2z := hK12.tail.froz
    have a3r := hK12.tail.tail.row; have a3f := hK12.tail.tail.free; have a3c := hK12.tail.tail.cell; have a3l := hK12.tail.tail.lt; have a3z := hK12.tail.tail.froz
    go_upto_region 7 with fail
    obtain ⟨w13, hw13⟩ : ∃ w13 : World, w13 = w12.alloc (.cells (PkC p A3 n c3) 27) := ⟨_, rfl⟩
    have hK13 := hK12.new (PkC p A3 n c3) 27
    have hb13 : Below w12.heap.size w12 (w12.alloc (.cells (PkC p A3 n c3) 27)) := (Below.refl _ _).alloc (Nat.le_refl _) _
    have hY13 := Lib.hid (hY12.out.below hb13)
    have hS13 := Lib.hid (HS12.out.below hb13)
    have hOB13 := Lib.hid (hOB12.out.below hb13)
    rw [← hw13] at hK13 hY13 hS13 hOB13 ⊢
    have hs13 := Lib.hid a1l
    clear hw13 hb13 a1r a1f a1c a1z a1l a2r a2f a2c a2z a2l a3r a3f a3c a3z a3l hK12 HS12 hY12 hOB12
    generalize w12.heap.size = h2 at *
    have hKK := hK13.swap.tail
    have hR13 : Kp w [(h2, PkC p A3 n c3, 27), (w.heap.size, PkC p A n c, 27), (w.heap.size + 1, PkC q2 B2 m2 d2, 27), (h1, PkC p A2 n c2, 27)] w13 :=
      ⟨fun x hx => hK13.rows x (by simp at hx ⊢; rcases hx with h | h | h | h <;> simp [h]), hK13.below⟩
    have hD13 : Kd w w13 [(h2, PkC p A3 n c3, 27), (w.heap.size, PkC p A n c, 27), (w.heap.size + 1, PkC q2 B2 m2 d2, 27), (h1, PkC p A2 n c2, 27)] w13 := ⟨hR13, Below.refl _ _⟩
    clear hKK hK13 hR13
    obtain ⟨r, hr⟩ : ∃ r, (eqPk p q2 && xs == ys2) = r := ⟨_, rfl⟩
    have hr2 : (eqPk q2 p && ys2 == xs) = r := by rw [← hr]; exact same_comm _ _ _ _
    have HR := Lib.hid hr
    have HR2 := Lib.hid hr2
    have HSS : Hid ((eqPk p p && xs == xs) = true) := by show _ = _; simp [(eqPk_iff p p).2 rfl]
    clear hr hr2
    go_cut [51] (fun s51 wx => s51 = .bool false ∧ Kd w w13 [(h2, PkC p A3 n c3, 27), (w.heap.size, PkC p A n c, 27), (w.heap.size + 1, PkC q2 B2 m2 d2, 27), (h1, PkC p A2 n c2, 27)] wx)
    case first =>
      refine wp_region_held_drew (S := Kd w w13 [(h2, PkC p A3 n c3, 27), (w.heap.size, PkC p A n c, 27), (w.heap.size + 1, PkC q2 B2 m2 d2, 27), (h1, PkC p A2 n c2, 27)]) (by kernel_rfl) hD13.drew (fun hHeld => ?_)
      obtain ⟨wd, hwd⟩ : ∃ wd : World, wd = w13.drew := ⟨_, rfl⟩
      rw [← hwd] at hHeld ⊢
      clear hwd hD13
      refine wpAnyH_take (i := 0) (oi := ({ dst := some 24, op := Go.Op.load 27 (Go.Operand.tmp 3), type := 27, pos := "law.go:119", after := #[], guard := none } : Oper)) (v := ?vw1) rfl (by kernel_rfl) (by kernel_rfl) (by kernel_rfl) (fun _ _ _ h => h) (Or.inl ⟨by rfl, ?hz1⟩) (by assumption) ?rs1
      case hz1 => (intro wz hSw; (try have hq1 := hSw.tail.cell); (try have hq2 := hSw.tail.tail.cell); (try have hq3 := hSw.cell); (try have hq4 := hSw.tail.row); (try have hq5 := hSw.tail.tail.row); (try have hq6 := hSw.row); (try have hq7 := hSw.tail.tail.tail.row); (try clear hSw); go_simp; all_goals with_reducible rfl)
      try simp only [Act.put, List.setIfInBounds_toArray, List.set_cons_zero, List.set_cons_succ]
      refine wpAnyH_take (i := 1) (oi := ({ dst := some 25, op := Go.Op.load 27 (Go.Operand.tmp 4), type := 27, pos := "law.go:119", after := #[], guard := none } : Oper)) (v := ?vw2) rfl (by kernel_rfl) (by kernel_rfl) (by kernel_rfl) (fun _ _ _ h => h) (Or.inl ⟨by rfl, ?hz2⟩) (by assumption) ?rs2
      case hz2 => (intro wz hSw; (try have hq1 := hSw.tail.cell); (try have hq2 := hSw.tail.tail.cell); (try have hq3 := hSw.cell); (try have hq4 := hSw.tail.row); (try have hq5 := hSw.tail.tail.row); (try have hq6 := hSw.row); (try have hq7 := hSw.tail.tail.tail.row); (try clear hSw); go_simp; all_goals with_reducible rfl)
      try simp only [Act.put, List.setIfInBounds_toArray, List.set_cons_zero, List.set_cons_succ]
      refine wpAnyH_take (i := 3) (oi := ({ dst := some 27, op := Go.Op.load 27 (Go.Operand.tmp 3), type := 27, pos := "law.go:119", after := #[], guard := none } : Oper)) (v := ?vw3) rfl (by kernel_rfl) (by kernel_rfl) (by kernel_rfl) (fun _ _ _ h => h) (Or.inl ⟨by rfl, ?hz3⟩) (by assumption) ?rs3
      case hz3 => (intro wz hSw; (try have hq1 := hSw.tail.cell); (try have hq2 := hSw.tail.tail.cell); (try have hq3 := hSw.cell); (try have hq4 := hSw.tail.row); (try have hq5 := hSw.tail.tail.row); (try have hq6 := hSw.row); (try have hq7 := hSw.tail.tail.tail.row); (try clear hSw); go_simp; all_goals with_reducible rfl)
      try simp only [Act.put, List.setIfInBounds_toArray, List.set_cons_zero, List.set_cons_succ]
      refine wpAnyH_take (i := 4) (oi := ({ dst := some 28, op := Go.Op.load 27 (Go.Operand.tmp 4), type := 27, pos := "law.go:119", after := #[], guard := none } : Oper)) (v := ?vw4) rfl (by kernel_rfl) (by kernel_rfl) (by kernel_rfl) (fun _ _ _ h => h) (Or.inl ⟨by rfl, ?hz4⟩) (by assumption) ?rs4
      case hz4 => (intro wz hSw; (try have hq1 := hSw.tail.cell); (try have hq2 := hSw.tail.tail.cell); (try have hq3 := hSw.cell); (try have hq4 := hSw.tail.row); (try have hq5 := hSw.tail.tail.row); (try have hq6 := hSw.row); (try have hq7 := hSw.tail.tail.tail.row); (try clear hSw); go_simp; all_goals with_reducible rfl)
      try simp only [Act.put, List.setIfInBounds_toArray, List.set_cons_zero, List.set_cons_succ]
      refine wpAnyH_ready (rs := [2]) (by kernel_rfl) (by simp) ?_
      refine (AllReadyH.cons (o := ({ dst := some 26, op := Go.Op.call { callee := Go.Callee.value (Go.Operand.func 18), args := #[Go.Operand.tmp 24, Go.Operand.tmp 25], argTypes := #[27, 27] }, type := 4, pos := "law.go:119", after := #[{ on := 0, ground := Go.Ground.data }, { on := 1, ground := Go.Ground.data }], guard := none } : Oper)) rfl (fun K hK => ?_) AllReadyH.nil)
      go_simp
      (go_at_call 18; refine (same_eq p q2 _ _ n _ m2 _ xs ys2 r _ (HS.out.below hHeld.below) (hY13.out.below hHeld.bl) (by omega) HR.out).mono ?_; rintro e w6 ⟨rfl, hb6⟩)
      refine hK.out _ _ (by first | exact hHeld.more hb6 | exact hHeld | exact below_more hHeld hb6) (fun hHeld1 => ?_)
      clear hHeld; have hHeld := hHeld1; clear hHeld1 hK K
      try simp only [Act.put, List.setIfInBounds_toArray, List.set_cons_zero, List.set_cons_succ]
      refine wpAnyH_ready (rs := [5]) (by kernel_rfl) (by simp) ?_
      refine (AllReadyH.cons (o := ({ dst := some 29, op := Go.Op.call { callee := Go.Callee.value (Go.Operand.func 19), args := #[Go.Operand.tmp 27, Go.Operand.tmp 28], argTypes := #[27, 27] }, type := 4, pos := "law.go:119", after := #[{ on := 3, ground := Go.Ground.data }, { on := 4, ground := Go.Ground.data }, { on := 2, ground := Go.Ground.chain }], guard := none } : Oper)) rfl (fun K hK => ?_) AllReadyH.nil)
      go_simp
      (go_at_call 19; refine (refSame_eq p q2 _ _ n _ m2 _ xs ys2 r _ (HS.out.below hHeld.below) (hY13.out.below hHeld.bl) (by omega) HR.out).mono ?_; rintro e w6 ⟨rfl, hb6⟩)
      refine hK.out _ _ (by first | exact hHeld.more hb6 | exact hHeld | exact below_more hHeld hb6) (fun hHeld1 => ?_)
      clear hHeld; have hHeld := hHeld1; clear hHeld1 hK K
      try simp only [Act.put, List.setIfInBounds_toArray, List.set_cons_zero, List.set_cons_succ]
      refine wpAnyH_take (i := 6) (oi := ({ dst := some 30, op := Go.Op.binOp Go.BinOp.neq 4 (Go.Operand.tmp 26) (Go.Operand.tmp 29) 4, type := 4, pos := "law.go:119", after := #[{ on := 2, ground := Go.Ground.data }, { on := 5, ground := Go.Ground.data }], guard := none } : Oper)) (v := ?vw5) rfl (by kernel_rfl) (by kernel_rfl) (by kernel_rfl) (fun _ _ _ h => h) (Or.inl ⟨by rfl, ?hz5⟩) (by assumption) ?rs5
      case hz5 => (intro wz hSw; (try have hq1 := hSw.tail.cell); (try have hq2 := hSw.tail.tail.cell); (try have hq3 := hSw.cell); (try have hq4 := hSw.tail.row); (try have hq5 := hSw.tail.tail.row); (try have hq6 := hSw.row); (try have hq7 := hSw.tail.tail.tail.row); (try clear hSw); go_simp; all_goals with_reducible rfl)
      try simp only [Act.put, List.setIfInBounds_toArray, List.set_cons_zero, List.set_cons_succ]
      refine wpAnyH_take (i := 7) (oi := ({ dst := some 31, op := Go.Op.move (Go.Operand.tmp 30), type := 4, pos := "law.go:119", after := #[{ on := 6, ground := Go.Ground.data }, { on := 5, ground := Go.Ground.chain }], guard := none } : Oper)) (v := ?vw6) rfl (by kernel_rfl) (by kernel_rfl) (by kernel_rfl) (fun _ _ _ h => h) (Or.inl ⟨by rfl, ?hz6⟩) (by assumption) ?rs6
      case hz6 => (intro wz hSw; (try have hq1 := hSw.tail.cell); (try have hq2 := hSw.tail.tail.cell); (try have hq3 := hSw.cell); (try have hq4 := hSw.tail.row); (try have hq5 := hSw.tail.tail.row); (try have hq6 := hSw.row); (try have hq7 := hSw.tail.tail.tail.row); (try clear hSw); go_simp; all_goals with_reducible rfl)
      try simp only [Act.put, List.setIfInBounds_toArray, List.set_cons_zero, List.set_cons_succ]
      refine wpAnyH_take (i := 8) (oi := ({ dst := some 32, op := Go.Op.load 27 (Go.Operand.tmp 4), type := 27, pos := "law.go:119", after := #[{ on := 7, ground := Go.Ground.guard }], guard := some (7, false) } : Oper)) (v := ?vw7) rfl (by kernel_rfl) (by kernel_rfl) (by kernel_rfl) (fun _ _ _ h => h) (Or.inl ⟨by rfl, ?hz7⟩) (by assumption) ?rs7
      case hz7 => (intro wz hSw; (try have hq1 := hSw.tail.cell); (try have hq2 := hSw.tail.tail.cell); (try have hq3 := hSw.cell); (try have hq4 := hSw.tail.row); (try have hq5 := hSw.tail.tail.row); (try have hq6 := hSw.row); (try have hq7 := hSw.tail.tail.tail.row); (try clear hSw); go_simp; all_goals with_reducible rfl)
      try simp only [Act.put, List.setIfInBounds_toArray, List.set_cons_zero, List.set_cons_succ]
      refine wpAnyH_take (i := 9) (oi := ({ dst := some 33, op := Go.Op.load 27 (Go.Operand.tmp 3), type := 27, pos := "law.go:119", after := #[{ on := 7, ground := Go.Ground.guard }], guard := some (7, false) } : Oper)) (v := ?vw8) rfl (by kernel_rfl) (by kernel_rfl) (by kernel_rfl) (fun _ _ _ h => h) (Or.inl ⟨by rfl, ?hz8⟩) (by assumption) ?rs8
      case hz8 => (intro wz hSw; (try have hq1 := hSw.tail.cell); (try have hq2 := hSw.tail.tail.cell); (try have hq3 := hSw.cell); (try have hq4 := hSw.tail.row); (try have hq5 := hSw.tail.tail.row); (try have hq6 := hSw.row); (try have hq7 := hSw.tail.tail.tail.row); (try clear hSw); go_simp; all_goals with_reducible rfl)
      try simp only [Act.put, List.setIfInBounds_toArray, List.set_cons_zero, List.set_cons_succ]
      refine wpAnyH_take (i := 11) (oi := ({ dst := some 35, op := Go.Op.load 27 (Go.Operand.tmp 3), type := 27, pos := "law.go:119", after := #[{ on := 7, ground := Go.Ground.guard }], guard := some (7, false) } : Oper)) (v := ?vw9) rfl (by kernel_rfl) (by kernel_rfl) (by kernel_rfl) (fun _ _ _ h => h) (Or.inl ⟨by rfl, ?hz9⟩) (by assumption) ?rs9
      case hz9 => (intro wz hSw; (try have hq1 := hSw.tail.cell); (try have hq2 := hSw.tail.tail.cell); (try have hq3 := hSw.cell); (try have hq4 := hSw.tail.row); (try have hq5 := hSw.tail.tail.row); (try have hq6 := hSw.row); (try have hq7 := hSw.tail.tail.tail.row); (try clear hSw); go_simp; all_goals with_reducible rfl)
      try simp only [Act.put, List.setIfInBounds_toArray, List.set_cons_zero, List.set_cons_succ]
      refine wpAnyH_take (i := 12) (oi := ({ dst := some 36, op := Go.Op.load 27 (Go.Operand.tmp 4), type := 27, pos := "law.go:119", after := #[{ on := 7, ground := Go.Ground.guard }], guard := some (7, false) } : Oper)) (v := ?vw10) rfl (by kernel_rfl) (by kernel_rfl) (by kernel_rfl) (fun _ _ _ h => h) (Or.inl ⟨by rfl, ?hz10⟩) (by assumption) ?rs10
      case hz10 => (intro wz hSw; (try have hq1 := hSw.tail.cell); (try have hq2 := hSw.tail.tail.cell); (try have hq3 := hSw.cell); (try have hq4 := hSw.tail.row); (try have hq5 := hSw.tail.tail.row); (try have hq6 := hSw.row); (try have hq7 := hSw.tail.tail.tail.row); (try clear hSw); go_simp; all_goals with_reducible rfl)
      try simp only [Act.put, List.setIfInBounds_toArray, List.set_cons_zero, List.set_cons_succ]
      refine wpAnyH_ready (rs := [10]) (by kernel_rfl) (by simp) ?_
      refine (AllReadyH.cons (o := ({ dst := some 34, op := Go.Op.call { callee := Go.Callee.value (Go.Operand.func 18), args := #[Go.Operand.tmp 32, Go.Operand.tmp 33], argTypes := #[27, 27] }, type := 4, pos := "law.go:119", after := #[{ on := 8, ground := Go.Ground.data }, { on := 9, ground := Go.Ground.data }, { on := 7, ground := Go.Ground.chain }, { on := 7, ground := Go.Ground.guard }], guard := some (7, false) } : Oper)) rfl (fun K hK => ?_) AllReadyH.nil)
      go_simp
      (go_at_call 18; refine (same_eq q2 p _ _ m2 _ n _ ys2 xs r _ (hY13.out.below hHeld.bl) (HS.out.below hHeld.below) (by omega) HR2.out).mono ?_; rintro e w6 ⟨rfl, hb6⟩)
      refine hK.out _ _ (by first | exact hHeld.more hb6 | exact hHeld | exact below_more hHeld hb6) (fun hHeld1 => ?_)
      clear hHeld; have hHeld := hHeld1; clear hHeld1 hK K
      try simp only [Act.put, List.setIfInBounds_toArray, List.set_cons_zero, List.set_cons_succ]
      refine wpAnyH_ready (rs := [13]) (by kernel_rfl) (by simp) ?_
      refine (AllReadyH.cons (o := ({ dst := some 37, op := Go.Op.call { callee := Go.Callee.value (Go.Operand.func 18), args := #[Go.Operand.tmp 35, Go.Operand.tmp 36], argTypes := #[27, 27] }, type := 4, pos := "law.go:119", after := #[{ on := 11, ground := Go.Ground.data }, { on := 12, ground := Go.Ground.data }, { on := 10, ground := Go.Ground.chain }, { on := 7, ground := Go.Ground.guard }], guard := some (7, false) } : Oper)) rfl (fun K hK => ?_) AllReadyH.nil)
      go_simp
      (go_at_call 18; refine (same_eq p q2 _ _ n _ m2 _ xs ys2 r _ (HS.out.below hHeld.below) (hY13.out.below hHeld.bl) (by omega) HR.out).mono ?_; rintro e w6 ⟨rfl, hb6⟩)
      refine hK.out _ _ (by first | exact hHeld.more hb6 | exact hHeld | exact below_more hHeld hb6) (fun hHeld1 => ?_)
      clear hHeld; have hHeld := hHeld1; clear hHeld1 hK K
      try simp only [Act.put, List.setIfInBounds_toArray, List.set_cons_zero, List.set_cons_succ]
      refine wpAnyH_take (i := 14) (oi := ({ dst := some 38, op := Go.Op.binOp Go.BinOp.neq 4 (Go.Operand.tmp 34) (Go.Operand.tmp 37) 4, type := 4, pos := "law.go:119", after := #[{ on := 10, ground := Go.Ground.data }, { on := 13, ground := Go.Ground.data }, { on := 7, ground := Go.Ground.guard }], guard := some (7, false) } : Oper)) (v := ?vw11) rfl (by kernel_rfl) (by kernel_rfl) (by kernel_rfl) (fun _ _ _ h => h) (Or.inl ⟨by rfl, ?hz11⟩) (by assumption) ?rs11
      case hz11 => (intro wz hSw; (try have hq1 := hSw.tail.cell); (try have hq2 := hSw.tail.tail.cell); (try have hq3 := hSw.cell); (try have hq4 := hSw.tail.row); (try have hq5 := hSw.tail.tail.row); (try have hq6 := hSw.row); (try have hq7 := hSw.tail.tail.tail.row); (try clear hSw); go_simp; all_goals with_reducible rfl)
      try simp only [Act.put, List.setIfInBounds_toArray, List.set_cons_zero, List.set_cons_succ]
      refine wpAnyH_take (i := 15) (oi := ({ dst := some 39, op := Go.Op.pick (Go.Operand.tmp 31) (Go.Operand.const (Go.Value.bool true)) (Go.Operand.tmp 38), type := 4, pos := "law.go:119", after := #[{ on := 7, ground := Go.Ground.data }, { on := 14, ground := Go.Ground.data }], guard := none } : Oper)) (v := ?vw12) rfl (by kernel_rfl) (by kernel_rfl) (by kernel_rfl) (fun _ _ _ h => h) (Or.inl ⟨by rfl, ?hz12⟩) (by assumption) ?rs12
      case hz12 => (intro wz hSw; (try have hq1 := hSw.tail.cell); (try have hq2 := hSw.tail.tail.cell); (try have hq3 := hSw.cell); (try have hq4 := hSw.tail.row); (try have hq5 := hSw.tail.tail.row); (try have hq6 := hSw.row); (try have hq7 := hSw.tail.tail.tail.row); (try clear hSw); go_simp; all_goals with_reducible rfl)
      try simp only [Act.put, List.setIfInBounds_toArray, List.set_cons_zero, List.set_cons_succ]
      refine wpAnyH_take (i := 16) (oi := ({ dst := some 40, op := Go.Op.move (Go.Operand.tmp 39), type := 4, pos := "law.go:119", after := #[{ on := 15, ground := Go.Ground.data }, { on := 13, ground := Go.Ground.chain }], guard := none } : Oper)) (v := ?vw13) rfl (by kernel_rfl) (by kernel_rfl) (by kernel_rfl) (fun _ _ _ h => h) (Or.inl ⟨by rfl, ?hz13⟩) (by assumption) ?rs13
      case hz13 => (intro wz hSw; (try have hq1 := hSw.tail.cell); (try have hq2 := hSw.tail.tail.cell); (try have hq3 := hSw.cell); (try have hq4 := hSw.tail.row); (try have hq5 := hSw.tail.tail.row); (try have hq6 := hSw.row); (try have hq7 := hSw.tail.tail.tail.row); (try clear hSw); go_simp; all_goals with_reducible rfl)
      try simp only [Act.put, List.setIfInBounds_toArray, List.set_cons_zero, List.set_cons_succ]
      refine wpAnyH_take (i := 17) (oi := ({ dst := some 41, op := Go.Op.load 27 (Go.Operand.tmp 8), type := 27, pos := "law.go:119", after := #[{ on := 16, ground := Go.Ground.guard }], guard := some (16, false) } : Oper)) (v := ?vw14) rfl (by kernel_rfl) (by kernel_rfl) (by kernel_rfl) (fun _ _ _ h => h) (Or.inl ⟨by rfl, ?hz14⟩) (by assumption) ?rs14
      case hz14 => (intro wz hSw; (try have hq1 := hSw.tail.cell); (try have hq2 := hSw.tail.tail.cell); (try have hq3 := hSw.cell); (try have hq4 := hSw.tail.row); (try have hq5 := hSw.tail.tail.row); (try have hq6 := hSw.row); (try have hq7 := hSw.tail.tail.tail.row); (try clear hSw); go_simp; all_goals with_reducible rfl)
      try simp only [Act.put, List.setIfInBounds_toArray, List.set_cons_zero, List.set_cons_succ]
      refine wpAnyH_take (i := 18) (oi := ({ dst := some 42, op := Go.Op.load 27 (Go.Operand.tmp 3), type := 27, pos := "law.go:119", after := #[{ on := 16, ground := Go.Ground.guard }], guard := some (16, false) } : Oper)) (v := ?vw15) rfl (by kernel_rfl) (by kernel_rfl) (by kernel_rfl) (fun _ _ _ h => h) (Or.inl ⟨by rfl, ?hz15⟩) (by assumption) ?rs15
      case hz15 => (intro wz hSw; (try have hq1 := hSw.tail.cell); (try have hq2 := hSw.tail.tail.cell); (try have hq3 := hSw.cell); (try have hq4 := hSw.tail.row); (try have hq5 := hSw.tail.tail.row); (try have hq6 := hSw.row); (try have hq7 := hSw.tail.tail.tail.row); (try clear hSw); go_simp; all_goals with_reducible rfl)
      try simp only [Act.put, List.setIfInBounds_toArray, List.set_cons_zero, List.set_cons_succ]
      refine wpAnyH_ready (rs := [19]) (by kernel_rfl) (by simp) ?_
      refine (AllReadyH.cons (o := ({ dst := some 43, op := Go.Op.call { callee := Go.Callee.value (Go.Operand.func 19), args := #[Go.Operand.tmp 41, Go.Operand.tmp 42], argTypes := #[27, 27] }, type := 4, pos := "law.go:119", after := #[{ on := 17, ground := Go.Ground.data }, { on := 18, ground := Go.Ground.data }, { on := 16, ground := Go.Ground.chain }, { on := 16, ground := Go.Ground.guard }], guard := some (16, false) } : Oper)) rfl (fun K hK => ?_) AllReadyH.nil)
      go_simp
      (go_at_call 19; refine (refSame_eq p p _ _ n _ n _ xs xs true _ (hS13.out.below hHeld.bl) (HS.out.below hHeld.below) (by omega) HSS.out).mono ?_; rintro e w6 ⟨rfl, hb6⟩)
      refine hK.out _ _ (by first | exact hHeld.more hb6 | exact hHeld | exact below_more hHeld hb6) (fun hHeld1 => ?_)
      clear hHeld; have hHeld := hHeld1; clear hHeld1 hK K
      try simp only [Act.put, List.setIfInBounds_toArray, List.set_cons_zero, List.set_cons_succ]
      refine wpAnyH_take (i := 20) (oi := ({ dst := some 44, op := Go.Op.unOp Go.UnOp.not 4 (Go.Operand.tmp 43), type := 4, pos := "law.go:119", after := #[{ on := 19, ground := Go.Ground.data }, { on := 16, ground := Go.Ground.guard }], guard := some (16, false) } : Oper)) (v := ?vw16) rfl (by kernel_rfl) (by kernel_rfl) (by kernel_rfl) (fun _ _ _ h => h) (Or.inl ⟨by rfl, ?hz16⟩) (by assumption) ?rs16
      case hz16 => (intro wz hSw; (try have hq1 := hSw.tail.cell); (try have hq2 := hSw.tail.tail.cell); (try have hq3 := hSw.cell); (try have hq4 := hSw.tail.row); (try have hq5 := hSw.tail.tail.row); (try have hq6 := hSw.row); (try have hq7 := hSw.tail.tail.tail.row); (try clear hSw); go_simp; all_goals with_reducible rfl)
      try simp only [Act.put, List.setIfInBounds_toArray, List.set_cons_zero, List.set_cons_succ]
      refine wpAnyH_take (i := 21) (oi := ({ dst := some 45, op := Go.Op.pick (Go.Operand.tmp 40) (Go.Operand.const (Go.Value.bool true)) (Go.Operand.tmp 44), type := 4, pos := "law.go:119", after := #[{ on := 16, ground := Go.Ground.data }, { on := 20, ground := Go.Ground.data }], guard := none } : Oper)) (v := ?vw17) rfl (by kernel_rfl) (by kernel_rfl) (by kernel_rfl) (fun _ _ _ h => h) (Or.inl ⟨by rfl, ?hz17⟩) (by assumption) ?rs17
      case hz17 => (intro wz hSw; (try have hq1 := hSw.tail.cell); (try have hq2 := hSw.tail.tail.cell); (try have hq3 := hSw.cell); (try have hq4 := hSw.tail.row); (try have hq5 := hSw.tail.tail.row); (try have hq6 := hSw.row); (try have hq7 := hSw.tail.tail.tail.row); (try clear hSw); go_simp; all_goals with_reducible rfl)
      try simp only [Act.put, List.setIfInBounds_toArray, List.set_cons_zero, List.set_cons_succ]
      refine wpAnyH_take (i := 22) (oi := ({ dst := some 46, op := Go.Op.move (Go.Operand.tmp 45), type := 4, pos := "law.go:119", after := #[{ on := 21, ground := Go.Ground.data }, { on := 19, ground := Go.Ground.chain }], guard := none } : Oper)) (v := ?vw18) rfl (by kernel_rfl) (by kernel_rfl) (by kernel_rfl) (fun _ _ _ h => h) (Or.inl ⟨by rfl, ?hz18⟩) (by assumption) ?rs18
      case hz18 => (intro wz hSw; (try have hq1 := hSw.tail.cell); (try have hq2 := hSw.tail.tail.cell); (try have hq3 := hSw.cell); (try have hq4 := hSw.tail.row); (try have hq5 := hSw.tail.tail.row); (try have hq6 := hSw.row); (try have hq7 := hSw.tail.tail.tail.row); (try clear hSw); go_simp; all_goals with_reducible rfl)
      try simp only [Act.put, List.setIfInBounds_toArray, List.set_cons_zero, List.set_cons_succ]
      refine wpAnyH_take (i := 23) (oi := ({ dst := some 47, op := Go.Op.load 27 (Go.Operand.tmp 3), type := 27, pos := "law.go:119", after := #[{ on := 22, ground := Go.Ground.guard }], guard := some (22, false) } : Oper)) (v := ?vw19) rfl (by kernel_rfl) (by kernel_rfl) (by kernel_rfl) (fun _ _ _ h => h) (Or.inl ⟨by rfl, ?hz19⟩) (by assumption) ?rs19
      case hz19 => (intro wz hSw; (try have hq1 := hSw.tail.cell); (try have hq2 := hSw.tail.tail.cell); (try have hq3 := hSw.cell); (try have hq4 := hSw.tail.row); (try have hq5 := hSw.tail.tail.row); (try have hq6 := hSw.row); (try have hq7 := hSw.tail.tail.tail.row); (try clear hSw); go_simp; all_goals with_reducible rfl)
      try simp only [Act.put, List.setIfInBounds_toArray, List.set_cons_zero, List.set_cons_succ]
      refine wpAnyH_take (i := 24) (oi := ({ dst := some 48, op := Go.Op.load 27 (Go.Operand.tmp 3), type := 27, pos := "law.go:119", after := #[{ on := 22, ground := Go.Ground.guard }], guard := some (22, false) } : Oper)) (v := ?vw20) rfl (by kernel_rfl) (by kernel_rfl) (by kernel_rfl) (fun _ _ _ h => h) (Or.inl ⟨by rfl, ?hz20⟩) (by assumption) ?rs20
      case hz20 => (intro wz hSw; (try have hq1 := hSw.tail.cell); (try have hq2 := hSw.tail.tail.cell); (try have hq3 := hSw.cell); (try have hq4 := hSw.tail.row); (try have hq5 := hSw.tail.tail.row); (try have hq6 := hSw.row); (try have hq7 := hSw.tail.tail.tail.row); (try clear hSw); go_simp; all_goals with_reducible rfl)
      try simp only [Act.put, List.setIfInBounds_toArray, List.set_cons_zero, List.set_cons_succ]
      refine wpAnyH_ready (rs := [25]) (by kernel_rfl) (by simp) ?_
      refine (AllReadyH.cons (o := ({ dst := some 49, op := Go.Op.call { callee := Go.Callee.value (Go.Operand.func 18), args := #[Go.Operand.tmp 47, Go.Operand.tmp 48], argTypes := #[27, 27] }, type := 4, pos := "law.go:119", after := #[{ on := 23, ground := Go.Ground.data }, { on := 24, ground := Go.Ground.data }, { on := 22, ground := Go.Ground.chain }, { on := 22, ground := Go.Ground.guard }], guard := some (22, false) } : Oper)) rfl (fun K hK => ?_) AllReadyH.nil)
      go_simp
      (go_at_call 18; refine (same_eq p p _ _ n _ n _ xs xs true _ (HS.out.below hHeld.below) (HS.out.below hHeld.below) (by omega) HSS.out).mono ?_; rintro e w6 ⟨rfl, hb6⟩)
      refine hK.out _ _ (by first | exact hHeld.more hb6 | exact hHeld | exact below_more hHeld hb6) (fun hHeld1 => ?_)
      clear hHeld; have hHeld := hHeld1; clear hHeld1 hK K
      try simp only [Act.put, List.setIfInBounds_toArray, List.set_cons_zero, List.set_cons_succ]
      refine wpAnyH_take (i := 26) (oi := ({ dst := some 50, op := Go.Op.unOp Go.UnOp.not 4 (Go.Operand.tmp 49), type := 4, pos := "law.go:119", after := #[{ on := 25, ground := Go.Ground.data }, { on := 22, ground := Go.Ground.guard }], guard := some (22, false) } : Oper)) (v := ?vw21) rfl (by kernel_rfl) (by kernel_rfl) (by kernel_rfl) (fun _ _ _ h => h) (Or.inl ⟨by rfl, ?hz21⟩) (by assumption) ?rs21
      case hz21 => (intro wz hSw; (try have hq1 := hSw.tail.cell); (try have hq2 := hSw.tail.tail.cell); (try have hq3 := hSw.cell); (try have hq4 := hSw.tail.row); (try have hq5 := hSw.tail.tail.row); (try have hq6 := hSw.row); (try have hq7 := hSw.tail.tail.tail.row); (try clear hSw); go_simp; all_goals with_reducible rfl)
      try simp only [Act.put, List.setIfInBounds_toArray, List.set_cons_zero, List.set_cons_succ]
      refine wpAnyH_take (i := 27) (oi := ({ dst := some 51, op := Go.Op.pick (Go.Operand.tmp 46) (Go.Operand.const (Go.Value.bool true)) (Go.Operand.tmp 50), type := 4, pos := "law.go:119", after := #[{ on := 22, ground := Go.Ground.data }, { on := 26, ground := Go.Ground.data }], guard := none } : Oper)) (v := ?vw22) rfl (by kernel_rfl) (by kernel_rfl) (by kernel_rfl) (fun _ _ _ h => h) (Or.inl ⟨by rfl, ?hz22⟩) (by assumption) ?rs22
      case hz22 => (intro wz hSw; (try have hq1 := hSw.tail.cell); (try have hq2 := hSw.tail.tail.cell); (try have hq3 := hSw.cell); (try have hq4 := hSw.tail.row); (try have hq5 := hSw.tail.tail.row); (try have hq6 := hSw.row); (try have hq7 := hSw.tail.tail.tail.row); (try clear hSw); go_simp; all_goals with_reducible rfl)
      try simp only [Act.put, List.setIfInBounds_toArray, List.set_cons_zero, List.set_cons_succ]
      refine wpAnyH_done (by kernel_rfl) ?_ _
      go_wp2_with fail
      go_meet
      case rel => exact ⟨rfl, hHeld⟩
    case rest =>
      clear hD13
      obtain ⟨rfl, hD⟩ := hcut
      have hSc := Lib.hid (hS13.out.below hD.bl)
      have hOBc := Lib.hid (hOB13.out.below hD.bl)
      have hKc := hD.kp
      clear hS13 hOB13 hY13 hD
      have hKc : Kp w [(h2, PkC p A3 n c3, 27), (w.heap.size, PkC p A n c, 27), (h1, PkC p A2 n c2, 27)] wc :=
        ⟨fun x hx => hKc.rows x (by simp at hx ⊢; rcases hx with h | h | h <;> simp [h]), hKc.below⟩
      go_upto_region 10 with fail
      go_loopw [9] (fun i wr => ∃ k : Nat, i = .int .i64 k ∧ k ≤ n ∧ Kp w [(h2, PkC p A3 n c3, 27), (w.heap.size, PkC p A n c, 27), (h1, PkC p A2 n c2, 27)] wr ∧ Hid (Subs wr A3 n xs) ∧ Hid (OB wr (w.heap.size + 2) h1 A2 n)) (fun i _ => n - (intOf i).toNat)
      case atStart => exact ⟨0, rfl, by omega, hKc, hSc, hOBc⟩
      case round =>
        clear hKc hSc hOBc
        obtain ⟨k, rfl, hk, hK, hSr, hOr⟩ := hrel
        have e1r := hK.row; have e1f := hK.free; have e1c := hK.cell; have e1l := hK.lt; have e1z := hK.froz
        have e2r := hK.tail.row; have e2f := hK.tail.free; have e2c := hK.tail.cell; have e2l := hK.tail.lt; have e2z := hK.tail.froz
        have e3r := hK.tail.tail.row; have e3f := hK.tail.tail.free; have e3c := hK.tail.tail.cell; have e3l := hK.tail.tail.lt; have e3z := hK.tail.tail.froz
        by_cases hlt : k < n
        · have hlt2 : (k : Int) < (n : Int) := by omega
          have hk0 : (0 : Int) ≤ (k : Int) := by omega
          rcases hOr.out with ⟨_, h0⟩ | ⟨g, cur, rfl, hg1, hg2, hg3, hg4⟩
          · omega
          · obtain ⟨v0, hv0⟩ : ∃ v0, cur[k * 2]? = some v0 := ⟨_, Array.getElem?_eq_getElem (by omega)⟩
            have zr := rowAt_blk hg3
            have zc : ∀ i, wr.cell? ⟨g, i, none⟩ = cur[i]? := fun i => cell_of_row wr g i cur _ (0, 0) hg3
            have zz : ∀ i, wr.frozen? ⟨g, i, none⟩ = false := fun i => by simp [World.frozen?, hg3]
            have hG3 := Lib.hid hg3
            clear hg3
            go_wp2_with fail
            go_roundw
            case rel => have h9 := hs13.out; exact ⟨k + 1, by go_num, by omega, Kp_other hK (by omega) (by intro x hx; simp at hx; rcases hx with rfl | rfl | rfl <;> (simp; omega)) _, Subs.set hSr.out (fun b o e => by have := HLO.out b o e; omega) _, .inr ⟨g, _, rfl, hg1, hg2, setRow_heap wr g cur _ _ _ hG3.out, by simpa using hg4⟩⟩
            case measure => simp [intOf]; omega
        · have hge : ¬ (k : Int) < (n : Int) := by omega
          go_wp2_with fail
          refine (refSame_eq p p A3 A n c3 n c xs xs true _ hSr.out (HS.out.below hK.below) (by omega) HSS.out).mono ?_
          rintro e w20 ⟨rfl, hb20⟩
          have hK20 := hK.more hb20
          go_wp2_with fail
          refine (awake_any _ (HG.out.below hK20.below)).mono ?_
          rintro e w21 ⟨rfl, hb21⟩
          go_wp2_with fail
          go_ret
          exact ⟨rfl, below_more hK20.below hb21⟩

    | false =>
    obtain ⟨wx, hwx⟩ : ∃ wx : World, wx = w7 := ⟨_, rfl⟩
    have hY9 := Lib.hid (HS2.out.below hQ.below)
    rw [← hwx] at hQ hY9 p1r p1f p1c p1z p1l p2r p2f p2c p2z p2l ⊢
    clear hwx
    go_wp2_with fail
    refine (refCopy_any p A n c xs _ (HS.out.below hQ.below) HA.out (by omega)).mono ?_
    rintro e w10 ⟨A2, c2, rfl, hb10, hN10⟩
    clear p1r p1f p1c p1z p1l p2r p2f p2c p2z p2l
    obtain ⟨q2, B2, m2, d2, ys2, hKx, hYx, hm2⟩ : ∃ q2 B2 m2 d2 ys2, Kp w [(w.heap.size, PkC p A n c, 27), (w.heap.size + 1, PkC q2 B2 m2 d2, 27)] wx ∧ Hid (Subs wx B2 m2 ys2) ∧ m2 ≤ 100 := ⟨q, B, m, d, ys, hQ, hY9, hm⟩
    clear hQ hY9

    have hY10 := Lib.hid (hYx.out.below hb10)
    have hK10 := hKx.more hb10
    have HN := Lib.hid hN10
    have hlt10 : wx.heap.size ≤ w10.heap.size := hb10.size
    clear hb10 hN10 hYx
    have z1r := hKx.row; have z1f := hKx.free; have z1c := hKx.cell; have z1l := hKx.lt; have z1z := hKx.froz
    have z2r := hKx.tail.row; have z2f := hKx.tail.free; have z2c := hKx.tail.cell; have z2l := hKx.tail.lt; have z2z := hKx.tail.froz
    clear z1r z1f z1c z1z z2r z2f z2c z2z hKx
    have a1r := hK10.row; have a1f := hK10.free; have a1c := hK10.cell; have a1l := hK10.lt; have a1z := hK10.froz
    have a2r := hK10.tail.row; have a2f := hK10.tail.free; have a2c := hK10.tail.cell; have a2l := hK10.tail.lt; have a2z := hK10.tail.froz
    go_upto_region 6 with fail
    obtain ⟨w11, hw11⟩ : ∃ w11 : World, w11 = w10.alloc (.cells (PkC p A2 n c2) 27) := ⟨_, rfl⟩
    have hK11 := hK10.new (PkC p A2 n c2) 27
    have hb11 : Below w10.heap.size w10 (w10.alloc (.cells (PkC p A2 n c2) 27)) := (Below.refl _ _).alloc (Nat.le_refl _) _
    have hOB10 : OB w10 (w.heap.size + 2) w10.heap.size A2 n := by
      rcases HN.out.blk with h | ⟨g, cur, e, h1, h2, h3⟩
      · exact .inl h
      · exact .inr ⟨g, cur, e, by omega, (Array.getElem?_eq_some_iff.1 h2).1, h2, h3⟩
    have hS11 := Lib.hid (HN.out.subs.1.below hb11)
    have hC11 := Lib.hid HN.out.subs.2.1
    have hY11 := Lib.hid (hY10.out.below hb11)
    have hOB11 := Lib.hid (hOB10.below hb11)
    have hsz11 : w11.heap.size = w10.heap.size + 1 := by rw [hw11]; simp
    rw [← hw11] at hK11 hS11 hY11 hOB11 ⊢
    have hlt10b := Lib.hid hlt10
    have hsz := Lib.hid hsz11
    have hwlt : w.heap.size + 1 < w10.heap.size := a2l
    clear hw11 hb11 a1r a1f a1c a1z a1l a2r a2f a2c a2z a2l hK10 hOB10 HN hY10 hlt10 hsz11
    generalize w10.heap.size = h1 at *
    have a1r := hK11.row; have a1f := hK11.free; have a1c := hK11.cell; have a1l := hK11.lt; have a1z := hK11.froz
    have a2r := hK11.tail.row; have a2f := hK11.tail.free; have a2c := hK11.tail.cell; have a2l := hK11.tail.lt; have a2z := hK11.tail.froz
    have a3r := hK11.tail.tail.row; have a3f := hK11.tail.tail.free; have a3c := hK11.tail.tail.cell; have a3l := hK11.tail.tail.lt; have a3z := hK11.tail.tail.froz
    go_wp2_with fail
    refine (copy_any p A2 n c2 xs _ hS11.out hC11.out (by omega)).mono ?_
    rintro e w12 ⟨A3, c3, rfl, hb12, hS12, hc12, hlo12⟩
    have HLO : Hid (∀ b o, A3 = some ⟨b, o, none⟩ → h1 < b) := fun b o e => by have h5 := hlo12 b o e; have h6 := hsz.out; omega
    have hK12 := hK11.more hb12
    have hY12 := Lib.hid (hY11.out.below hb12)
    have hOB12 := Lib.hid (hOB11.out.below hb12)
    have hs12 := Lib.hid hb12.size
    have HS12 := Lib.hid hS12
    clear hb12 hlo12 hc12 hS12 a1r a1f a1c a1z a1l a2r a2f a2c a2z a2l a3r a3f a3c a3z a3l hK11 hY11 hOB11 hS11 hC11
    have a1r := hK12.row; have a1f := hK12.free; have a1c := hK12.cell; have a1l := hK12.lt; have a1z := hK12.froz
    have a2r := hK12.tail.row; have a2f := hK12.tail.free; have a2c := hK12.tail.cell; have a2l := hK12.tail.lt; have a2z := hK12.tail.froz
    have a3r := hK12.tail.tail.row; have a3f := hK12.tail.tail.free; have a3c := hK12.tail.tail.cell; have a3l := hK12.tail.tail.lt; have a3z := hK12.tail.tail.froz
    go_upto_region 7 with fail
    obtain ⟨w13, hw13⟩ : ∃ w13 : World, w13 = w12.alloc (.cells (PkC p A3 n c3) 27) := ⟨_, rfl⟩
    have hK13 := hK12.new (PkC p A3 n c3) 27
    have hb13 : Below w12.heap.size w12 (w12.alloc (.cells (PkC p A3 n c3) 27)) := (Below.refl _ _).alloc (Nat.le_refl _) _
    have hY13 := Lib.hid (hY12.out.below hb13)
    have hS13 := Lib.hid (HS12.out.below hb13)
    have hOB13 := Lib.hid (hOB12.out.below hb13)
    rw [← hw13] at hK13 hY13 hS13 hOB13 ⊢
    have hs13 := Lib.hid a1l
    clear hw13 hb13 a1r a1f a1c a1z a1l a2r a2f a2c a2z a2l a3r a3f a3c a3z a3l hK12 HS12 hY12 hOB12
    generalize w12.heap.size = h2 at *
    have hKK := hK13.swap.tail
    have hR13 : Kp w [(h2, PkC p A3 n c3, 27), (w.heap.size, PkC p A n c, 27), (w.heap.size + 1, PkC q2 B2 m2 d2, 27), (h1, PkC p A2 n c2, 27)] w13 :=
      ⟨fun x hx => hK13.rows x (by simp at hx ⊢; rcases hx with h | h | h | h <;> simp [h]), hK13.below⟩
    have hD13 : Kd w w13 [(h2, PkC p A3 n c3, 27), (w.heap.size, PkC p A n c, 27), (w.heap.size + 1, PkC q2 B2 m2 d2, 27), (h1, PkC p A2 n c2, 27)] w13 := ⟨hR13, Below.refl _ _⟩
    clear hKK hK13 hR13
    obtain ⟨r, hr⟩ : ∃ r, (eqPk p q2 && xs == ys2) = r := ⟨_, rfl⟩
    have hr2 : (eqPk q2 p && ys2 == xs) = r := by rw [← hr]; exact same_comm _ _ _ _
    have HR := Lib.hid hr
    have HR2 := Lib.hid hr2
    have HSS : Hid ((eqPk p p && xs == xs) = true) := by show _ = _; simp [(eqPk_iff p p).2 rfl]
    clear hr hr2
    go_cut [51] (fun s51 wx => s51 = .bool false ∧ Kd w w13 [(h2, PkC p A3 n c3, 27), (w.heap.size, PkC p A n c, 27), (w.heap.size + 1, PkC q2 B2 m2 d2, 27), (h1, PkC p A2 n c2, 27)] wx)
    case first =>
      refine wp_region_held_drew (S := Kd w w13 [(h2, PkC p A3 n c3, 27), (w.heap.size, PkC p A n c, 27), (w.heap.size + 1, PkC q2 B2 m2 d2, 27), (h1, PkC p A2 n c2, 27)]) (by kernel_rfl) hD13.drew (fun hHeld => ?_)
      obtain ⟨wd, hwd⟩ : ∃ wd : World, wd = w13.drew := ⟨_, rfl⟩
      rw [← hwd] at hHeld ⊢
      clear hwd hD13
      refine wpAnyH_take (i := 0) (oi := ({ dst := some 24, op := Go.Op.load 27 (Go.Operand.tmp 3), type := 27, pos := "law.go:119", after := #[], guard := none } : Oper)) (v := ?vw23) rfl (by kernel_rfl) (by kernel_rfl) (by kernel_rfl) (fun _ _ _ h => h) (Or.inl ⟨by rfl, ?hz23⟩) (by assumption) ?rs23
      case hz23 => (intro wz hSw; (try have hq1 := hSw.tail.cell); (try have hq2 := hSw.tail.tail.cell); (try have hq3 := hSw.cell); (try have hq4 := hSw.tail.row); (try have hq5 := hSw.tail.tail.row); (try have hq6 := hSw.row); (try have hq7 := hSw.tail.tail.tail.row); (try clear hSw); go_simp; all_goals with_reducible rfl)
      try simp only [Act.put, List.setIfInBounds_toArray, List.set_cons_zero, List.set_cons_succ]
      refine wpAnyH_take (i := 1) (oi := ({ dst := some 25, op := Go.Op.load 27 (Go.Operand.tmp 4), type := 27, pos := "law.go:119", after := #[], guard := none } : Oper)) (v := ?vw24) rfl (by kernel_rfl) (by kernel_rfl) (by kernel_rfl) (fun _ _ _ h => h) (Or.inl ⟨by rfl, ?hz24⟩) (by assumption) ?rs24
      case hz24 => (intro wz hSw; (try have hq1 := hSw.tail.cell); (try have hq2 := hSw.tail.tail.cell); (try have hq3 := hSw.cell); (try have hq4 := hSw.tail.row); (try have hq5 := hSw.tail.tail.row); (try have hq6 := hSw.row); (try have hq7 := hSw.tail.tail.tail.row); (try clear hSw); go_simp; all_goals with_reducible rfl)
      try simp only [Act.put, List.setIfInBounds_toArray, List.set_cons_zero, List.set_cons_succ]
      refine wpAnyH_take (i := 3) (oi := ({ dst := some 27, op := Go.Op.load 27 (Go.Operand.tmp 3), type := 27, pos := "law.go:119", after := #[], guard := none } : Oper)) (v := ?vw25) rfl (by kernel_rfl) (by kernel_rfl) (by kernel_rfl) (fun _ _ _ h => h) (Or.inl ⟨by rfl, ?hz25⟩) (by assumption) ?rs25
      case hz25 => (intro wz hSw; (try have hq1 := hSw.tail.cell); (try have hq2 := hSw.tail.tail.cell); (try have hq3 := hSw.cell); (try have hq4 := hSw.tail.row); (try have hq5 := hSw.tail.tail.row); (try have hq6 := hSw.row); (try have hq7 := hSw.tail.tail.tail.row); (try clear hSw); go_simp; all_goals with_reducible rfl)
      try simp only [Act.put, List.setIfInBounds_toArray, List.set_cons_zero, List.set_cons_succ]
      refine wpAnyH_take (i := 4) (oi := ({ dst := some 28, op := Go.Op.load 27 (Go.Operand.tmp 4), type := 27, pos := "law.go:119", after := #[], guard := none } : Oper)) (v := ?vw26) rfl (by kernel_rfl) (by kernel_rfl) (by kernel_rfl) (fun _ _ _ h => h) (Or.inl ⟨by rfl, ?hz26⟩) (by assumption) ?rs26
      case hz26 => (intro wz hSw; (try have hq1 := hSw.tail.cell); (try have hq2 := hSw.tail.tail.cell); (try have hq3 := hSw.cell); (try have hq4 := hSw.tail.row); (try have hq5 := hSw.tail.tail.row); (try have hq6 := hSw.row); (try have hq7 := hSw.tail.tail.tail.row); (try clear hSw); go_simp; all_goals with_reducible rfl)
      try simp only [Act.put, List.setIfInBounds_toArray, List.set_cons_zero, List.set_cons_succ]
      refine wpAnyH_ready (rs := [2]) (by kernel_rfl) (by simp) ?_
      refine (AllReadyH.cons (o := ({ dst := some 26, op := Go.Op.call { callee := Go.Callee.value (Go.Operand.func 18), args := #[Go.Operand.tmp 24, Go.Operand.tmp 25], argTypes := #[27, 27] }, type := 4, pos := "law.go:119", after := #[{ on := 0, ground := Go.Ground.data }, { on := 1, ground := Go.Ground.data }], guard := none } : Oper)) rfl (fun K hK => ?_) AllReadyH.nil)
      go_simp
      (go_at_call 18; refine (same_eq p q2 _ _ n _ m2 _ xs ys2 r _ (HS.out.below hHeld.below) (hY13.out.below hHeld.bl) (by omega) HR.out).mono ?_; rintro e w6 ⟨rfl, hb6⟩)
      refine hK.out _ _ (by first | exact hHeld.more hb6 | exact hHeld | exact below_more hHeld hb6) (fun hHeld1 => ?_)
      clear hHeld; have hHeld := hHeld1; clear hHeld1 hK K
      try simp only [Act.put, List.setIfInBounds_toArray, List.set_cons_zero, List.set_cons_succ]
      refine wpAnyH_ready (rs := [5]) (by kernel_rfl) (by simp) ?_
      refine (AllReadyH.cons (o := ({ dst := some 29, op := Go.Op.call { callee := Go.Callee.value (Go.Operand.func 19), args := #[Go.Operand.tmp 27, Go.Operand.tmp 28], argTypes := #[27, 27] }, type := 4, pos := "law.go:119", after := #[{ on := 3, ground := Go.Ground.data }, { on := 4, ground := Go.Ground.data }, { on := 2, ground := Go.Ground.chain }], guard := none } : Oper)) rfl (fun K hK => ?_) AllReadyH.nil)
      go_simp
      (go_at_call 19; refine (refSame_eq p q2 _ _ n _ m2 _ xs ys2 r _ (HS.out.below hHeld.below) (hY13.out.below hHeld.bl) (by omega) HR.out).mono ?_; rintro e w6 ⟨rfl, hb6⟩)
      refine hK.out _ _ (by first | exact hHeld.more hb6 | exact hHeld | exact below_more hHeld hb6) (fun hHeld1 => ?_)
      clear hHeld; have hHeld := hHeld1; clear hHeld1 hK K
      try simp only [Act.put, List.setIfInBounds_toArray, List.set_cons_zero, List.set_cons_succ]
      refine wpAnyH_take (i := 6) (oi := ({ dst := some 30, op := Go.Op.binOp Go.BinOp.neq 4 (Go.Operand.tmp 26) (Go.Operand.tmp 29) 4, type := 4, pos := "law.go:119", after := #[{ on := 2, ground := Go.Ground.data }, { on := 5, ground := Go.Ground.data }], guard := none } : Oper)) (v := ?vw27) rfl (by kernel_rfl) (by kernel_rfl) (by kernel_rfl) (fun _ _ _ h => h) (Or.inl ⟨by rfl, ?hz27⟩) (by assumption) ?rs27
      case hz27 => (intro wz hSw; (try have hq1 := hSw.tail.cell); (try have hq2 := hSw.tail.tail.cell); (try have hq3 := hSw.cell); (try have hq4 := hSw.tail.row); (try have hq5 := hSw.tail.tail.row); (try have hq6 := hSw.row); (try have hq7 := hSw.tail.tail.tail.row); (try clear hSw); go_simp; all_goals with_reducible rfl)
      try simp only [Act.put, List.setIfInBounds_toArray, List.set_cons_zero, List.set_cons_succ]
      refine wpAnyH_take (i := 7) (oi := ({ dst := some 31, op := Go.Op.move (Go.Operand.tmp 30), type := 4, pos := "law.go:119", after := #[{ on := 6, ground := Go.Ground.data }, { on := 5, ground := Go.Ground.chain }], guard := none } : Oper)) (v := ?vw28) rfl (by kernel_rfl) (by kernel_rfl) (by kernel_rfl) (fun _ _ _ h => h) (Or.inl ⟨by rfl, ?hz28⟩) (by assumption) ?rs28
      case hz28 => (intro wz hSw; (try have hq1 := hSw.tail.cell); (try have hq2 := hSw.tail.tail.cell); (try have hq3 := hSw.cell); (try have hq4 := hSw.tail.row); (try have hq5 := hSw.tail.tail.row); (try have hq6 := hSw.row); (try have hq7 := hSw.tail.tail.tail.row); (try clear hSw); go_simp; all_goals with_reducible rfl)
      try simp only [Act.put, List.setIfInBounds_toArray, List.set_cons_zero, List.set_cons_succ]
      refine wpAnyH_take (i := 8) (oi := ({ dst := some 32, op := Go.Op.load 27 (Go.Operand.tmp 4), type := 27, pos := "law.go:119", after := #[{ on := 7, ground := Go.Ground.guard }], guard := some (7, false) } : Oper)) (v := ?vw29) rfl (by kernel_rfl) (by kernel_rfl) (by kernel_rfl) (fun _ _ _ h => h) (Or.inl ⟨by rfl, ?hz29⟩) (by assumption) ?rs29
      case hz29 => (intro wz hSw; (try have hq1 := hSw.tail.cell); (try have hq2 := hSw.tail.tail.cell); (try have hq3 := hSw.cell); (try have hq4 := hSw.tail.row); (try have hq5 := hSw.tail.tail.row); (try have hq6 := hSw.row); (try have hq7 := hSw.tail.tail.tail.row); (try clear hSw); go_simp; all_goals with_reducible rfl)
      try simp only [Act.put, List.setIfInBounds_toArray, List.set_cons_zero, List.set_cons_succ]
      refine wpAnyH_take (i := 9) (oi := ({ dst := some 33, op := Go.Op.load 27 (Go.Operand.tmp 3), type := 27, pos := "law.go:119", after := #[{ on := 7, ground := Go.Ground.guard }], guard := some (7, false) } : Oper)) (v := ?vw30) rfl (by kernel_rfl) (by kernel_rfl) (by kernel_rfl) (fun _ _ _ h => h) (Or.inl ⟨by rfl, ?hz30⟩) (by assumption) ?rs30
      case hz30 => (intro wz hSw; (try have hq1 := hSw.tail.cell); (try have hq2 := hSw.tail.tail.cell); (try have hq3 := hSw.cell); (try have hq4 := hSw.tail.row); (try have hq5 := hSw.tail.tail.row); (try have hq6 := hSw.row); (try have hq7 := hSw.tail.tail.tail.row); (try clear hSw); go_simp; all_goals with_reducible rfl)
      try simp only [Act.put, List.setIfInBounds_toArray, List.set_cons_zero, List.set_cons_succ]
      refine wpAnyH_take (i := 11) (oi := ({ dst := some 35, op := Go.Op.load 27 (Go.Operand.tmp 3), type := 27, pos := "law.go:119", after := #[{ on := 7, ground := Go.Ground.guard }], guard := some (7, false) } : Oper)) (v := ?vw31) rfl (by kernel_rfl) (by kernel_rfl) (by kernel_rfl) (fun _ _ _ h => h) (Or.inl ⟨by rfl, ?hz31⟩) (by assumption) ?rs31
      case hz31 => (intro wz hSw; (try have hq1 := hSw.tail.cell); (try have hq2 := hSw.tail.tail.cell); (try have hq3 := hSw.cell); (try have hq4 := hSw.tail.row); (try have hq5 := hSw.tail.tail.row); (try have hq6 := hSw.row); (try have hq7 := hSw.tail.tail.tail.row); (try clear hSw); go_simp; all_goals with_reducible rfl)
      try simp only [Act.put, List.setIfInBounds_toArray, List.set_cons_zero, List.set_cons_succ]
      refine wpAnyH_take (i := 12) (oi := ({ dst := some 36, op := Go.Op.load 27 (Go.Operand.tmp 4), type := 27, pos := "law.go:119", after := #[{ on := 7, ground := Go.Ground.guard }], guard := some (7, false) } : Oper)) (v := ?vw32) rfl (by kernel_rfl) (by kernel_rfl) (by kernel_rfl) (fun _ _ _ h => h) (Or.inl ⟨by rfl, ?hz32⟩) (by assumption) ?rs32
      case hz32 => (intro wz hSw; (try have hq1 := hSw.tail.cell); (try have hq2 := hSw.tail.tail.cell); (try have hq3 := hSw.cell); (try have hq4 := hSw.tail.row); (try have hq5 := hSw.tail.tail.row); (try have hq6 := hSw.row); (try have hq7 := hSw.tail.tail.tail.row); (try clear hSw); go_simp; all_goals with_reducible rfl)
      try simp only [Act.put, List.setIfInBounds_toArray, List.set_cons_zero, List.set_cons_succ]
      refine wpAnyH_ready (rs := [10]) (by kernel_rfl) (by simp) ?_
      refine (AllReadyH.cons (o := ({ dst := some 34, op := Go.Op.call { callee := Go.Callee.value (Go.Operand.func 18), args := #[Go.Operand.tmp 32, Go.Operand.tmp 33], argTypes := #[27, 27] }, type := 4, pos := "law.go:119", after := #[{ on := 8, ground := Go.Ground.data }, { on := 9, ground := Go.Ground.data }, { on := 7, ground := Go.Ground.chain }, { on := 7, ground := Go.Ground.guard }], guard := some (7, false) } : Oper)) rfl (fun K hK => ?_) AllReadyH.nil)
      go_simp
      (go_at_call 18; refine (same_eq q2 p _ _ m2 _ n _ ys2 xs r _ (hY13.out.below hHeld.bl) (HS.out.below hHeld.below) (by omega) HR2.out).mono ?_; rintro e w6 ⟨rfl, hb6⟩)
      refine hK.out _ _ (by first | exact hHeld.more hb6 | exact hHeld | exact below_more hHeld hb6) (fun hHeld1 => ?_)
      clear hHeld; have hHeld := hHeld1; clear hHeld1 hK K
      try simp only [Act.put, List.setIfInBounds_toArray, List.set_cons_zero, List.set_cons_succ]
      refine wpAnyH_ready (rs := [13]) (by kernel_rfl) (by simp) ?_
      refine (AllReadyH.cons (o := ({ dst := some 37, op := Go.Op.call { callee := Go.Callee.value (Go.Operand.func 18), args := #[Go.Operand.tmp 35, Go.Operand.tmp 36], argTypes := #[27, 27] }, type := 4, pos := "law.go:119", after := #[{ on := 11, ground := Go.Ground.data }, { on := 12, ground := Go.Ground.data }, { on := 10, ground := Go.Ground.chain }, { on := 7, ground := Go.Ground.guard }], guard := some (7, false) } : Oper)) rfl (fun K hK => ?_) AllReadyH.nil)
      go_simp
      (go_at_call 18; refine (same_eq p q2 _ _ n _ m2 _ xs ys2 r _ (HS.out.below hHeld.below) (hY13.out.below hHeld.bl) (by omega) HR.out).mono ?_; rintro e w6 ⟨rfl, hb6⟩)
      refine hK.out _ _ (by first | exact hHeld.more hb6 | exact hHeld | exact below_more hHeld hb6) (fun hHeld1 => ?_)
      clear hHeld; have hHeld := hHeld1; clear hHeld1 hK K
      try simp only [Act.put, List.setIfInBounds_toArray, List.set_cons_zero, List.set_cons_succ]
      refine wpAnyH_take (i := 14) (oi := ({ dst := some 38, op := Go.Op.binOp Go.BinOp.neq 4 (Go.Operand.tmp 34) (Go.Operand.tmp 37) 4, type := 4, pos := "law.go:119", after := #[{ on := 10, ground := Go.Ground.data }, { on := 13, ground := Go.Ground.data }, { on := 7, ground := Go.Ground.guard }], guard := some (7, false) } : Oper)) (v := ?vw33) rfl (by kernel_rfl) (by kernel_rfl) (by kernel_rfl) (fun _ _ _ h => h) (Or.inl ⟨by rfl, ?hz33⟩) (by assumption) ?rs33
      case hz33 => (intro wz hSw; (try have hq1 := hSw.tail.cell); (try have hq2 := hSw.tail.tail.cell); (try have hq3 := hSw.cell); (try have hq4 := hSw.tail.row); (try have hq5 := hSw.tail.tail.row); (try have hq6 := hSw.row); (try have hq7 := hSw.tail.tail.tail.row); (try clear hSw); go_simp; all_goals with_reducible rfl)
      try simp only [Act.put, List.setIfInBounds_toArray, List.set_cons_zero, List.set_cons_succ]
      refine wpAnyH_take (i := 15) (oi := ({ dst := some 39, op := Go.Op.pick (Go.Operand.tmp 31) (Go.Operand.const (Go.Value.bool true)) (Go.Operand.tmp 38), type := 4, pos := "law.go:119", after := #[{ on := 7, ground := Go.Ground.data }, { on := 14, ground := Go.Ground.data }], guard := none } : Oper)) (v := ?vw34) rfl (by kernel_rfl) (by kernel_rfl) (by kernel_rfl) (fun _ _ _ h => h) (Or.inl ⟨by rfl, ?hz34⟩) (by assumption) ?rs34
      case hz34 => (intro wz hSw; (try have hq1 := hSw.tail.cell); (try have hq2 := hSw.tail.tail.cell); (try have hq3 := hSw.cell); (try have hq4 := hSw.tail.row); (try have hq5 := hSw.tail.tail.row); (try have hq6 := hSw.row); (try have hq7 := hSw.tail.tail.tail.row); (try clear hSw); go_simp; all_goals with_reducible rfl)
      try simp only [Act.put, List.setIfInBounds_toArray, List.set_cons_zero, List.set_cons_succ]
      refine wpAnyH_take (i := 16) (oi := ({ dst := some 40, op := Go.Op.move (Go.Operand.tmp 39), type := 4, pos := "law.go:119", after := #[{ on := 15, ground := Go.Ground.data }, { on := 13, ground := Go.Ground.chain }], guard := none } : Oper)) (v := ?vw35) rfl (by kernel_rfl) (by kernel_rfl) (by kernel_rfl) (fun _ _ _ h => h) (Or.inl ⟨by rfl, ?hz35⟩) (by assumption) ?rs35
      case hz35 => (intro wz hSw; (try have hq1 := hSw.tail.cell); (try have hq2 := hSw.tail.tail.cell); (try have hq3 := hSw.cell); (try have hq4 := hSw.tail.row); (try have hq5 := hSw.tail.tail.row); (try have hq6 := hSw.row); (try have hq7 := hSw.tail.tail.tail.row); (try clear hSw); go_simp; all_goals with_reducible rfl)
      try simp only [Act.put, List.setIfInBounds_toArray, List.set_cons_zero, List.set_cons_succ]
      refine wpAnyH_take (i := 17) (oi := ({ dst := some 41, op := Go.Op.load 27 (Go.Operand.tmp 8), type := 27, pos := "law.go:119", after := #[{ on := 16, ground := Go.Ground.guard }], guard := some (16, false) } : Oper)) (v := ?vw36) rfl (by kernel_rfl) (by kernel_rfl) (by kernel_rfl) (fun _ _ _ h => h) (Or.inl ⟨by rfl, ?hz36⟩) (by assumption) ?rs36
      case hz36 => (intro wz hSw; (try have hq1 := hSw.tail.cell); (try have hq2 := hSw.tail.tail.cell); (try have hq3 := hSw.cell); (try have hq4 := hSw.tail.row); (try have hq5 := hSw.tail.tail.row); (try have hq6 := hSw.row); (try have hq7 := hSw.tail.tail.tail.row); (try clear hSw); go_simp; all_goals with_reducible rfl)
      try simp only [Act.put, List.setIfInBounds_toArray, List.set_cons_zero, List.set_cons_succ]
      refine wpAnyH_take (i := 18) (oi := ({ dst := some 42, op := Go.Op.load 27 (Go.Operand.tmp 3), type := 27, pos := "law.go:119", after := #[{ on := 16, ground := Go.Ground.guard }], guard := some (16, false) } : Oper)) (v := ?vw37) rfl (by kernel_rfl) (by kernel_rfl) (by kernel_rfl) (fun _ _ _ h => h) (Or.inl ⟨by rfl, ?hz37⟩) (by assumption) ?rs37
      case hz37 => (intro wz hSw; (try have hq1 := hSw.tail.cell); (try have hq2 := hSw.tail.tail.cell); (try have hq3 := hSw.cell); (try have hq4 := hSw.tail.row); (try have hq5 := hSw.tail.tail.row); (try have hq6 := hSw.row); (try have hq7 := hSw.tail.tail.tail.row); (try clear hSw); go_simp; all_goals with_reducible rfl)
      try simp only [Act.put, List.setIfInBounds_toArray, List.set_cons_zero, List.set_cons_succ]
      refine wpAnyH_ready (rs := [19]) (by kernel_rfl) (by simp) ?_
      refine (AllReadyH.cons (o := ({ dst := some 43, op := Go.Op.call { callee := Go.Callee.value (Go.Operand.func 19), args := #[Go.Operand.tmp 41, Go.Operand.tmp 42], argTypes := #[27, 27] }, type := 4, pos := "law.go:119", after := #[{ on := 17, ground := Go.Ground.data }, { on := 18, ground := Go.Ground.data }, { on := 16, ground := Go.Ground.chain }, { on := 16, ground := Go.Ground.guard }], guard := some (16, false) } : Oper)) rfl (fun K hK => ?_) AllReadyH.nil)
      go_simp
      (go_at_call 19; refine (refSame_eq p p _ _ n _ n _ xs xs true _ (hS13.out.below hHeld.bl) (HS.out.below hHeld.below) (by omega) HSS.out).mono ?_; rintro e w6 ⟨rfl, hb6⟩)
      refine hK.out _ _ (by first | exact hHeld.more hb6 | exact hHeld | exact below_more hHeld hb6) (fun hHeld1 => ?_)
      clear hHeld; have hHeld := hHeld1; clear hHeld1 hK K
      try simp only [Act.put, List.setIfInBounds_toArray, List.set_cons_zero, List.set_cons_succ]
      refine wpAnyH_take (i := 20) (oi := ({ dst := some 44, op := Go.Op.unOp Go.UnOp.not 4 (Go.Operand.tmp 43), type := 4, pos := "law.go:119", after := #[{ on := 19, ground := Go.Ground.data }, { on := 16, ground := Go.Ground.guard }], guard := some (16, false) } : Oper)) (v := ?vw38) rfl (by kernel_rfl) (by kernel_rfl) (by kernel_rfl) (fun _ _ _ h => h) (Or.inl ⟨by rfl, ?hz38⟩) (by assumption) ?rs38
      case hz38 => (intro wz hSw; (try have hq1 := hSw.tail.cell); (try have hq2 := hSw.tail.tail.cell); (try have hq3 := hSw.cell); (try have hq4 := hSw.tail.row); (try have hq5 := hSw.tail.tail.row); (try have hq6 := hSw.row); (try have hq7 := hSw.tail.tail.tail.row); (try clear hSw); go_simp; all_goals with_reducible rfl)
      try simp only [Act.put, List.setIfInBounds_toArray, List.set_cons_zero, List.set_cons_succ]
      refine wpAnyH_take (i := 21) (oi := ({ dst := some 45, op := Go.Op.pick (Go.Operand.tmp 40) (Go.Operand.const (Go.Value.bool true)) (Go.Operand.tmp 44), type := 4, pos := "law.go:119", after := #[{ on := 16, ground := Go.Ground.data }, { on := 20, ground := Go.Ground.data }], guard := none } : Oper)) (v := ?vw39) rfl (by kernel_rfl) (by kernel_rfl) (by kernel_rfl) (fun _ _ _ h => h) (Or.inl ⟨by rfl, ?hz39⟩) (by assumption) ?rs39
      case hz39 => (intro wz hSw; (try have hq1 := hSw.tail.cell); (try have hq2 := hSw.tail.tail.cell); (try have hq3 := hSw.cell); (try have hq4 := hSw.tail.row); (try have hq5 := hSw.tail.tail.row); (try have hq6 := hSw.row); (try have hq7 := hSw.tail.tail.tail.row); (try clear hSw); go_simp; all_goals with_reducible rfl)
      try simp only [Act.put, List.setIfInBounds_toArray, List.set_cons_zero, List.set_cons_succ]
      refine wpAnyH_take (i := 22) (oi := ({ dst := some 46, op := Go.Op.move (Go.Operand.tmp 45), type := 4, pos := "law.go:119", after := #[{ on := 21, ground := Go.Ground.data }, { on := 19, ground := Go.Ground.chain }], guard := none } : Oper)) (v := ?vw40) rfl (by kernel_rfl) (by kernel_rfl) (by kernel_rfl) (fun _ _ _ h => h) (Or.inl ⟨by rfl, ?hz40⟩) (by assumption) ?rs40
      case hz40 => (intro wz hSw; (try have hq1 := hSw.tail.cell); (try have hq2 := hSw.tail.tail.cell); (try have hq3 := hSw.cell); (try have hq4 := hSw.tail.row); (try have hq5 := hSw.tail.tail.row); (try have hq6 := hSw.row); (try have hq7 := hSw.tail.tail.tail.row); (try clear hSw); go_simp; all_goals with_reducible rfl)
      try simp only [Act.put, List.setIfInBounds_toArray, List.set_cons_zero, List.set_cons_succ]
      refine wpAnyH_take (i := 23) (oi := ({ dst := some 47, op := Go.Op.load 27 (Go.Operand.tmp 3), type := 27, pos := "law.go:119", after := #[{ on := 22, ground := Go.Ground.guard }], guard := some (22, false) } : Oper)) (v := ?vw41) rfl (by kernel_rfl) (by kernel_rfl) (by kernel_rfl) (fun _ _ _ h => h) (Or.inl ⟨by rfl, ?hz41⟩) (by assumption) ?rs41
      case hz41 => (intro wz hSw; (try have hq1 := hSw.tail.cell); (try have hq2 := hSw.tail.tail.cell); (try have hq3 := hSw.cell); (try have hq4 := hSw.tail.row); (try have hq5 := hSw.tail.tail.row); (try have hq6 := hSw.row); (try have hq7 := hSw.tail.tail.tail.row); (try clear hSw); go_simp; all_goals with_reducible rfl)
      try simp only [Act.put, List.setIfInBounds_toArray, List.set_cons_zero, List.set_cons_succ]
      refine wpAnyH_take (i := 24) (oi := ({ dst := some 48, op := Go.Op.load 27 (Go.Operand.tmp 3), type := 27, pos := "law.go:119", after := #[{ on := 22, ground := Go.Ground.guard }], guard := some (22, false) } : Oper)) (v := ?vw42) rfl (by kernel_rfl) (by kernel_rfl) (by kernel_rfl) (fun _ _ _ h => h) (Or.inl ⟨by rfl, ?hz42⟩) (by assumption) ?rs42
      case hz42 => (intro wz hSw; (try have hq1 := hSw.tail.cell); (try have hq2 := hSw.tail.tail.cell); (try have hq3 := hSw.cell); (try have hq4 := hSw.tail.row); (try have hq5 := hSw.tail.tail.row); (try have hq6 := hSw.row); (try have hq7 := hSw.tail.tail.tail.row); (try clear hSw); go_simp; all_goals with_reducible rfl)
      try simp only [Act.put, List.setIfInBounds_toArray, List.set_cons_zero, List.set_cons_succ]
      refine wpAnyH_ready (rs := [25]) (by kernel_rfl) (by simp) ?_
      refine (AllReadyH.cons (o := ({ dst := some 49, op := Go.Op.call { callee := Go.Callee.value (Go.Operand.func 18), args := #[Go.Operand.tmp 47, Go.Operand.tmp 48], argTypes := #[27, 27] }, type := 4, pos := "law.go:119", after := #[{ on := 23, ground := Go.Ground.data }, { on := 24, ground := Go.Ground.data }, { on := 22, ground := Go.Ground.chain }, { on := 22, ground := Go.Ground.guard }], guard := some (22, false) } : Oper)) rfl (fun K hK => ?_) AllReadyH.nil)
      go_simp
      (go_at_call 18; refine (same_eq p p _ _ n _ n _ xs xs true _ (HS.out.below hHeld.below) (HS.out.below hHeld.below) (by omega) HSS.out).mono ?_; rintro e w6 ⟨rfl, hb6⟩)
      refine hK.out _ _ (by first | exact hHeld.more hb6 | exact hHeld | exact below_more hHeld hb6) (fun hHeld1 => ?_)
      clear hHeld; have hHeld := hHeld1; clear hHeld1 hK K
      try simp only [Act.put, List.setIfInBounds_toArray, List.set_cons_zero, List.set_cons_succ]
      refine wpAnyH_take (i := 26) (oi := ({ dst := some 50, op := Go.Op.unOp Go.UnOp.not 4 (Go.Operand.tmp 49), type := 4, pos := "law.go:119", after := #[{ on := 25, ground := Go.Ground.data }, { on := 22, ground := Go.Ground.guard }], guard := some (22, false) } : Oper)) (v := ?vw43) rfl (by kernel_rfl) (by kernel_rfl) (by kernel_rfl) (fun _ _ _ h => h) (Or.inl ⟨by rfl, ?hz43⟩) (by assumption) ?rs43
      case hz43 => (intro wz hSw; (try have hq1 := hSw.tail.cell); (try have hq2 := hSw.tail.tail.cell); (try have hq3 := hSw.cell); (try have hq4 := hSw.tail.row); (try have hq5 := hSw.tail.tail.row); (try have hq6 := hSw.row); (try have hq7 := hSw.tail.tail.tail.row); (try clear hSw); go_simp; all_goals with_reducible rfl)
      try simp only [Act.put, List.setIfInBounds_toArray, List.set_cons_zero, List.set_cons_succ]
      refine wpAnyH_take (i := 27) (oi := ({ dst := some 51, op := Go.Op.pick (Go.Operand.tmp 46) (Go.Operand.const (Go.Value.bool true)) (Go.Operand.tmp 50), type := 4, pos := "law.go:119", after := #[{ on := 22, ground := Go.Ground.data }, { on := 26, ground := Go.Ground.data }], guard := none } : Oper)) (v := ?vw44) rfl (by kernel_rfl) (by kernel_rfl) (by kernel_rfl) (fun _ _ _ h => h) (Or.inl ⟨by rfl, ?hz44⟩) (by assumption) ?rs44
      case hz44 => (intro wz hSw; (try have hq1 := hSw.tail.cell); (try have hq2 := hSw.tail.tail.cell); (try have hq3 := hSw.cell); (try have hq4 := hSw.tail.row); (try have hq5 := hSw.tail.tail.row); (try have hq6 := hSw.row); (try have hq7 := hSw.tail.tail.tail.row); (try clear hSw); go_simp; all_goals with_reducible rfl)
      try simp only [Act.put, List.setIfInBounds_toArray, List.set_cons_zero, List.set_cons_succ]
      refine wpAnyH_done (by kernel_rfl) ?_ _
      go_wp2_with fail
      go_meet
      case rel => exact ⟨rfl, hHeld⟩
    case rest =>
      clear hD13
      obtain ⟨rfl, hD⟩ := hcut
      have hSc := Lib.hid (hS13.out.below hD.bl)
      have hOBc := Lib.hid (hOB13.out.below hD.bl)
      have hKc := hD.kp
      clear hS13 hOB13 hY13 hD
      have hKc : Kp w [(h2, PkC p A3 n c3, 27), (w.heap.size, PkC p A n c, 27), (h1, PkC p A2 n c2, 27)] wc :=
        ⟨fun x hx => hKc.rows x (by simp at hx ⊢; rcases hx with h | h | h <;> simp [h]), hKc.below⟩
      go_upto_region 10 with fail
      go_loopw [9] (fun i wr => ∃ k : Nat, i = .int .i64 k ∧ k ≤ n ∧ Kp w [(h2, PkC p A3 n c3, 27), (w.heap.size, PkC p A n c, 27), (h1, PkC p A2 n c2, 27)] wr ∧ Hid (Subs wr A3 n xs) ∧ Hid (OB wr (w.heap.size + 2) h1 A2 n)) (fun i _ => n - (intOf i).toNat)
      case atStart => exact ⟨0, rfl, by omega, hKc, hSc, hOBc⟩
      case round =>
        clear hKc hSc hOBc
        obtain ⟨k, rfl, hk, hK, hSr, hOr⟩ := hrel
        have e1r := hK.row; have e1f := hK.free; have e1c := hK.cell; have e1l := hK.lt; have e1z := hK.froz
        have e2r := hK.tail.row; have e2f := hK.tail.free; have e2c := hK.tail.cell; have e2l := hK.tail.lt; have e2z := hK.tail.froz
        have e3r := hK.tail.tail.row; have e3f := hK.tail.tail.free; have e3c := hK.tail.tail.cell; have e3l := hK.tail.tail.lt; have e3z := hK.tail.tail.froz
        by_cases hlt : k < n
        · have hlt2 : (k : Int) < (n : Int) := by omega
          have hk0 : (0 : Int) ≤ (k : Int) := by omega
          rcases hOr.out with ⟨_, h0⟩ | ⟨g, cur, rfl, hg1, hg2, hg3, hg4⟩
          · omega
          · obtain ⟨v0, hv0⟩ : ∃ v0, cur[k * 2]? = some v0 := ⟨_, Array.getElem?_eq_getElem (by omega)⟩
            have zr := rowAt_blk hg3
            have zc : ∀ i, wr.cell? ⟨g, i, none⟩ = cur[i]? := fun i => cell_of_row wr g i cur _ (0, 0) hg3
            have zz : ∀ i, wr.frozen? ⟨g, i, none⟩ = false := fun i => by simp [World.frozen?, hg3]
            have hG3 := Lib.hid hg3
            clear hg3
            go_wp2_with fail
            go_roundw
            case rel => have h9 := hs13.out; exact ⟨k + 1, by go_num, by omega, Kp_other hK (by omega) (by intro x hx; simp at hx; rcases hx with rfl | rfl | rfl <;> (simp; omega)) _, Subs.set hSr.out (fun b o e => by have := HLO.out b o e; omega) _, .inr ⟨g, _, rfl, hg1, hg2, setRow_heap wr g cur _ _ _ hG3.out, by simpa using hg4⟩⟩
            case measure => simp [intOf]; omega
        · have hge : ¬ (k : Int) < (n : Int) := by omega
          go_wp2_with fail
          refine (refSame_eq p p A3 A n c3 n c xs xs true _ hSr.out (HS.out.below hK.below) (by omega) HSS.out).mono ?_
          rintro e w20 ⟨rfl, hb20⟩
          have hK20 := hK.more hb20
          go_wp2_with fail
          refine (awake_any _ (HG.out.below hK20.below)).mono ?_
          rintro e w21 ⟨rfl, hb21⟩
          go_wp2_with fail
          go_ret
          exact ⟨rfl, below_more hK20.below hb21⟩

end lawPacketSame
end Go.Proofs.YtbbmfhelncedcaaDoor
