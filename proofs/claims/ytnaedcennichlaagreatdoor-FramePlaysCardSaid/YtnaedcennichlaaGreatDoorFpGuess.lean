/-
  The document's own guess at a packet: of each type but Connect and those with Subs.
-/
import Derived.Test.YtnaedcennichlaaGreatDoorFpFields
set_option linter.unusedSimpArgs false
set_option linter.unusedVariables false
namespace Go.Proofs.YtnaedcennichlaaGreatDoor
open Go.RowKit
set_option maxRecDepth 100000
/-- A packet that is told. -/
def GUP (w : World) (P : Pk) (X : List (List UInt8 × Int)) (e : Ending) (w' : World) : Prop :=
  ∃ A c, e = .returned (.agg (PkC P A X.length c)) ∧ Below w.heap.size w w' ∧ Subs w' A X.length X ∧ (A = none → c = 0) ∧ (0 < X.length → ∀ b o, A = some ⟨b, o, none⟩ → w.heap.size ≤ b)
theorem gup_no {w w' : World} {P : Pk} (hb : Below w.heap.size w w') : GUP w P [] (.returned (.agg (PkC P none 0 0))) w' := ⟨none, 0, rfl, hb, Subs.nil _, fun _ => rfl, fun hn => absurd hn (Nat.lt_irrefl 0)⟩
/-- The blocks of a guess. -/
def gL (g : Nat) (l : List UInt8) (P : Pk) (A : Option Addr) (n c : Nat) : List (Nat × Array Value × TypeId) := [(g + 1, FlC l, 82), (g + 1 + 1, PkC P A n c, 36), (g, PkC zPk none 0 0, 36)]
section
variable {w w1 : World} {l l' : List UInt8} {P : Pk} {A : Option Addr} {n c : Nat}
theorem gne1 (g : Nat) (P : Pk) (A : Option Addr) (n c : Nat) : ∀ x ∈ [(g + 1 + 1, PkC P A n c, (36 : TypeId)), (g, PkC zPk none 0 0, (36 : TypeId))], x.1 ≠ g + 1 := by
  intro x hx
  simp at hx
  rcases hx with rfl | rfl <;> simp
theorem gne2 (g : Nat) (l : List UInt8) : ∀ x ∈ [(g + 1, FlC l, (82 : TypeId)), (g, PkC zPk none 0 0, (36 : TypeId))], x.1 ≠ g + 1 + 1 := by
  intro x hx
  simp at hx
  rcases hx with rfl | rfl <;> (dsimp only; omega)
/-- A store into the packet. -/
theorem gset (h : Kp w (gL w.heap.size l P A n c) w1) (Q : Pk) (B : Option Addr) (m d : Nat) : Kp w (gL w.heap.size l Q B m d) (w1.setRow (w.heap.size + 1 + 1) (PkC Q B m d)) := (h.swap.set (gne2 _ _) _).swap
theorem gnew (w : World) (l : List UInt8) (P : Pk) : Kp w (gL w.heap.size l P none 0 0) (((w.alloc (.cells (PkC zPk none 0 0) 36)).alloc (.cells (FlC l) 82)).alloc (.cells (PkC P none 0 0) 36)) := by
  have h := ((((Kp.nil w).new (PkC zPk none 0 0) 36).new (FlC l) 82).new (PkC P none 0 0) 36).swap
  simp only [World.size_alloc] at h
  exact h
end
theorem gbel {w : World} (a b d : Obj) : Below w.heap.size w (((w.alloc a).alloc b).alloc d) := (((Below.refl _ _).alloc (Nat.le_refl _) _).alloc (by simp) _).alloc (by simp; omega) _
theorem guess_no (c : Int) (l : List UInt8) (w : World) (h0 : 0 ≤ c) (h1 : c ≤ 255) (hT : c / 16 = 12 ∨ c / 16 = 13 ∨ c / 16 = 14) :
    Calls Tryz.prog 28 #[.int .u8 c, .string ⟨l.toArray⟩] w fun e w' => GUP w (zPk.s_ty (c / 16)) [] e w' := by
  have e1 : c.tdiv 16 = c / 16 := by rw [Int.tdiv_eq_ediv_of_nonneg h0]
  have hw1 : IntKind.u8.wrap (c / 16) = c / 16 := IntWalk.u8_in _ (by omega)
  rcases hT with hT | hT | hT
  · rw [hT] at e1 hw1 ⊢
    clear hT
    go_enter Tryz.func28, Tryz.ntmps28
    go_wp2_with (refine wpList_buildE rfl 82 _ rfl (FlC l) (by kernel_rfl) ?_)
    refine ret_pk 4 w.heap.size (zPk.s_ty 12) none 0 0 rfl rfl (by go_simp) rfl ?_
    exact gup_no (gbel _ _ _)
  · rw [hT] at e1 hw1 ⊢
    clear hT
    go_enter Tryz.func28, Tryz.ntmps28
    go_wp2_with (refine wpList_buildE rfl 82 _ rfl (FlC l) (by kernel_rfl) ?_)
    refine ret_pk 4 w.heap.size (zPk.s_ty 13) none 0 0 rfl rfl (by go_simp) rfl ?_
    exact gup_no (gbel _ _ _)
  · rw [hT] at e1 hw1 ⊢
    clear hT
    go_enter Tryz.func28, Tryz.ntmps28
    go_wp2_with (refine wpList_buildE rfl 82 _ rfl (FlC l) (by kernel_rfl) ?_)
    refine ret_pk 4 w.heap.size (zPk.s_ty 14) none 0 0 rfl rfl (by go_simp) rfl ?_
    exact gup_no (gbel _ _ _)
set_option maxHeartbeats 4000000 in
theorem guess_id (c : Int) (l : List UInt8) (w : World) (h0 : 0 ≤ c) (h1 : c ≤ 255) (hl : l.length ≤ 1000000) (hT : c / 16 = 4 ∨ c / 16 = 5 ∨ c / 16 = 6 ∨ c / 16 = 7 ∨ c / 16 = 11) :
    Calls Tryz.prog 28 #[.int .u8 c, .string ⟨l.toArray⟩] w fun e w' => GUP w ((zPk.s_ty (c / 16)).s_id (woV l)) [] e w' := by
  have e1 : c.tdiv 16 = c / 16 := by rw [Int.tdiv_eq_ediv_of_nonneg h0]
  have hw1 : IntKind.u8.wrap (c / 16) = c / 16 := IntWalk.u8_in _ (by omega)
  obtain ⟨v, hv⟩ : ∃ v, v = woV l := ⟨_, rfl⟩
  have hvb := wo_bd l
  rw [← hv] at hvb ⊢
  have HV := Lib.hid hv
  have hw2 : IntKind.u16.wrap v = v := IntWalk.u16_in _ (by omega)
  clear hv
  have hgl : (gwL l).length ≤ l.length := by rcases l with _ | ⟨a, _ | ⟨b, r⟩⟩ <;> simp [gwL]; omega
  obtain ⟨l2, hl2⟩ : ∃ l2, l2 = gwL l := ⟨_, rfl⟩
  have HL2 := Lib.hid hl2
  have hl2n : l2.length ≤ 1000000 := by rw [hl2]; omega
  obtain ⟨s2, hs2⟩ : ∃ s2 : Nat, s2 = l2.length + 1 := ⟨_, rfl⟩
  have hsI : (l2.length : Int) + 1 = (s2 : Int) := by omega
  have HSW : Hid (IntKind.i64.wrap (s2 : Int) = s2) := IntWalk.i64_in _ (by omega)
  clear hl2 hgl hs2
  rcases hT with hT | hT | hT | hT | hT
  · rw [hT] at e1 hw1 ⊢
    clear hT
    have t0 : (zPk.s_ty 4).ty = 4 := rfl
    have t1 : ((zPk.s_ty 4).s_id v).ty = 4 := rfl
    go_enter Tryz.func28, Tryz.ntmps28
    go_wp2_with (refine wpList_buildE rfl 82 _ rfl (FlC l) (by kernel_rfl) ?_)
    refine (fpWord (gnew w l (zPk.s_ty 4)) (gne1 _ _ _ _ _) (by omega)).mono ?_
    rintro e w2 ⟨rfl, hK2⟩
    rw [← HV.out]
    rw [← HL2.out] at hK2
    have hK3 := gset (h := hK2) ((zPk.s_ty 4).s_id v) none 0 0
    have HK3 := Lib.hid hK3
    have hsw := HSW.out
    have a1r := hK2.row; have a1f := hK2.free; have a1c := hK2.cell; have a1l := hK2.lt; have a1z := hK2.froz
    have a2r := hK2.tail.row; have a2f := hK2.tail.free; have a2c := hK2.tail.cell; have a2l := hK2.tail.lt; have a2z := hK2.tail.froz
    have a3r := hK2.tail.tail.row; have a3f := hK2.tail.tail.free; have a3c := hK2.tail.tail.cell; have a3l := hK2.tail.tail.lt; have a3z := hK2.tail.tail.froz
    clear hK2 hK3
    go_wp2_with fail
    clear hsw a1r a1f a1c a1l a1z a2r a2f a2c a2l a2z a3r a3f a3c a3l a3z
    obtain ⟨w3, hw3⟩ : ∃ w3, w3 = w2.setRow (w.heap.size + 1 + 1) (PkC ((zPk.s_ty 4).s_id v) none 0 0) := ⟨_, rfl⟩
    rw [← hw3] at HK3 ⊢
    clear hw3
    go_loopw [8] (fun v8 wr => wr = w3) (fun _ _ => 0)
    case atStart => trivial
    case round =>
      obtain rfl := hrel
      have hK4 := HK3.out
      have a1r := hK4.row; have a1f := hK4.free; have a1c := hK4.cell; have a1l := hK4.lt; have a1z := hK4.froz
      have a2r := hK4.tail.row; have a2f := hK4.tail.free; have a2c := hK4.tail.cell; have a2l := hK4.tail.lt; have a2z := hK4.tail.froz
      have a3r := hK4.tail.tail.row; have a3f := hK4.tail.tail.free; have a3c := hK4.tail.tail.cell; have a3l := hK4.tail.tail.lt; have a3z := hK4.tail.tail.froz
      clear hK4
      go_wp2_with fail
      refine ret_pk 4 w.heap.size ((zPk.s_ty 4).s_id v) none 0 0 rfl rfl (by go_simp) rfl ?_
      exact gup_no (HK3.out.swap.tail.swap.set (by intro x hx; simp at hx; subst hx; dsimp only; omega) _).below
  · rw [hT] at e1 hw1 ⊢
    clear hT
    have t0 : (zPk.s_ty 5).ty = 5 := rfl
    have t1 : ((zPk.s_ty 5).s_id v).ty = 5 := rfl
    go_enter Tryz.func28, Tryz.ntmps28
    go_wp2_with (refine wpList_buildE rfl 82 _ rfl (FlC l) (by kernel_rfl) ?_)
    refine (fpWord (gnew w l (zPk.s_ty 5)) (gne1 _ _ _ _ _) (by omega)).mono ?_
    rintro e w2 ⟨rfl, hK2⟩
    rw [← HV.out]
    rw [← HL2.out] at hK2
    have hK3 := gset (h := hK2) ((zPk.s_ty 5).s_id v) none 0 0
    have HK3 := Lib.hid hK3
    have hsw := HSW.out
    have a1r := hK2.row; have a1f := hK2.free; have a1c := hK2.cell; have a1l := hK2.lt; have a1z := hK2.froz
    have a2r := hK2.tail.row; have a2f := hK2.tail.free; have a2c := hK2.tail.cell; have a2l := hK2.tail.lt; have a2z := hK2.tail.froz
    have a3r := hK2.tail.tail.row; have a3f := hK2.tail.tail.free; have a3c := hK2.tail.tail.cell; have a3l := hK2.tail.tail.lt; have a3z := hK2.tail.tail.froz
    clear hK2 hK3
    go_wp2_with fail
    clear hsw a1r a1f a1c a1l a1z a2r a2f a2c a2l a2z a3r a3f a3c a3l a3z
    obtain ⟨w3, hw3⟩ : ∃ w3, w3 = w2.setRow (w.heap.size + 1 + 1) (PkC ((zPk.s_ty 5).s_id v) none 0 0) := ⟨_, rfl⟩
    rw [← hw3] at HK3 ⊢
    clear hw3
    go_loopw [8] (fun v8 wr => wr = w3) (fun _ _ => 0)
    case atStart => trivial
    case round =>
      obtain rfl := hrel
      have hK4 := HK3.out
      have a1r := hK4.row; have a1f := hK4.free; have a1c := hK4.cell; have a1l := hK4.lt; have a1z := hK4.froz
      have a2r := hK4.tail.row; have a2f := hK4.tail.free; have a2c := hK4.tail.cell; have a2l := hK4.tail.lt; have a2z := hK4.tail.froz
      have a3r := hK4.tail.tail.row; have a3f := hK4.tail.tail.free; have a3c := hK4.tail.tail.cell; have a3l := hK4.tail.tail.lt; have a3z := hK4.tail.tail.froz
      clear hK4
      go_wp2_with fail
      refine ret_pk 4 w.heap.size ((zPk.s_ty 5).s_id v) none 0 0 rfl rfl (by go_simp) rfl ?_
      exact gup_no (HK3.out.swap.tail.swap.set (by intro x hx; simp at hx; subst hx; dsimp only; omega) _).below
  · rw [hT] at e1 hw1 ⊢
    clear hT
    have t0 : (zPk.s_ty 6).ty = 6 := rfl
    have t1 : ((zPk.s_ty 6).s_id v).ty = 6 := rfl
    go_enter Tryz.func28, Tryz.ntmps28
    go_wp2_with (refine wpList_buildE rfl 82 _ rfl (FlC l) (by kernel_rfl) ?_)
    refine (fpWord (gnew w l (zPk.s_ty 6)) (gne1 _ _ _ _ _) (by omega)).mono ?_
    rintro e w2 ⟨rfl, hK2⟩
    rw [← HV.out]
    rw [← HL2.out] at hK2
    have hK3 := gset (h := hK2) ((zPk.s_ty 6).s_id v) none 0 0
    have HK3 := Lib.hid hK3
    have hsw := HSW.out
    have a1r := hK2.row; have a1f := hK2.free; have a1c := hK2.cell; have a1l := hK2.lt; have a1z := hK2.froz
    have a2r := hK2.tail.row; have a2f := hK2.tail.free; have a2c := hK2.tail.cell; have a2l := hK2.tail.lt; have a2z := hK2.tail.froz
    have a3r := hK2.tail.tail.row; have a3f := hK2.tail.tail.free; have a3c := hK2.tail.tail.cell; have a3l := hK2.tail.tail.lt; have a3z := hK2.tail.tail.froz
    clear hK2 hK3
    go_wp2_with fail
    clear hsw a1r a1f a1c a1l a1z a2r a2f a2c a2l a2z a3r a3f a3c a3l a3z
    obtain ⟨w3, hw3⟩ : ∃ w3, w3 = w2.setRow (w.heap.size + 1 + 1) (PkC ((zPk.s_ty 6).s_id v) none 0 0) := ⟨_, rfl⟩
    rw [← hw3] at HK3 ⊢
    clear hw3
    go_loopw [8] (fun v8 wr => wr = w3) (fun _ _ => 0)
    case atStart => trivial
    case round =>
      obtain rfl := hrel
      have hK4 := HK3.out
      have a1r := hK4.row; have a1f := hK4.free; have a1c := hK4.cell; have a1l := hK4.lt; have a1z := hK4.froz
      have a2r := hK4.tail.row; have a2f := hK4.tail.free; have a2c := hK4.tail.cell; have a2l := hK4.tail.lt; have a2z := hK4.tail.froz
      have a3r := hK4.tail.tail.row; have a3f := hK4.tail.tail.free; have a3c := hK4.tail.tail.cell; have a3l := hK4.tail.tail.lt; have a3z := hK4.tail.tail.froz
      clear hK4
      go_wp2_with fail
      refine ret_pk 4 w.heap.size ((zPk.s_ty 6).s_id v) none 0 0 rfl rfl (by go_simp) rfl ?_
      exact gup_no (HK3.out.swap.tail.swap.set (by intro x hx; simp at hx; subst hx; dsimp only; omega) _).below
  · rw [hT] at e1 hw1 ⊢
    clear hT
    have t0 : (zPk.s_ty 7).ty = 7 := rfl
    have t1 : ((zPk.s_ty 7).s_id v).ty = 7 := rfl
    go_enter Tryz.func28, Tryz.ntmps28
    go_wp2_with (refine wpList_buildE rfl 82 _ rfl (FlC l) (by kernel_rfl) ?_)
    refine (fpWord (gnew w l (zPk.s_ty 7)) (gne1 _ _ _ _ _) (by omega)).mono ?_
    rintro e w2 ⟨rfl, hK2⟩
    rw [← HV.out]
    rw [← HL2.out] at hK2
    have hK3 := gset (h := hK2) ((zPk.s_ty 7).s_id v) none 0 0
    have HK3 := Lib.hid hK3
    have hsw := HSW.out
    have a1r := hK2.row; have a1f := hK2.free; have a1c := hK2.cell; have a1l := hK2.lt; have a1z := hK2.froz
    have a2r := hK2.tail.row; have a2f := hK2.tail.free; have a2c := hK2.tail.cell; have a2l := hK2.tail.lt; have a2z := hK2.tail.froz
    have a3r := hK2.tail.tail.row; have a3f := hK2.tail.tail.free; have a3c := hK2.tail.tail.cell; have a3l := hK2.tail.tail.lt; have a3z := hK2.tail.tail.froz
    clear hK2 hK3
    go_wp2_with fail
    clear hsw a1r a1f a1c a1l a1z a2r a2f a2c a2l a2z a3r a3f a3c a3l a3z
    obtain ⟨w3, hw3⟩ : ∃ w3, w3 = w2.setRow (w.heap.size + 1 + 1) (PkC ((zPk.s_ty 7).s_id v) none 0 0) := ⟨_, rfl⟩
    rw [← hw3] at HK3 ⊢
    clear hw3
    go_loopw [8] (fun v8 wr => wr = w3) (fun _ _ => 0)
    case atStart => trivial
    case round =>
      obtain rfl := hrel
      have hK4 := HK3.out
      have a1r := hK4.row; have a1f := hK4.free; have a1c := hK4.cell; have a1l := hK4.lt; have a1z := hK4.froz
      have a2r := hK4.tail.row; have a2f := hK4.tail.free; have a2c := hK4.tail.cell; have a2l := hK4.tail.lt; have a2z := hK4.tail.froz
      have a3r := hK4.tail.tail.row; have a3f := hK4.tail.tail.free; have a3c := hK4.tail.tail.cell; have a3l := hK4.tail.tail.lt; have a3z := hK4.tail.tail.froz
      clear hK4
      go_wp2_with fail
      refine ret_pk 4 w.heap.size ((zPk.s_ty 7).s_id v) none 0 0 rfl rfl (by go_simp) rfl ?_
      exact gup_no (HK3.out.swap.tail.swap.set (by intro x hx; simp at hx; subst hx; dsimp only; omega) _).below
  · rw [hT] at e1 hw1 ⊢
    clear hT
    have t0 : (zPk.s_ty 11).ty = 11 := rfl
    have t1 : ((zPk.s_ty 11).s_id v).ty = 11 := rfl
    go_enter Tryz.func28, Tryz.ntmps28
    go_wp2_with (refine wpList_buildE rfl 82 _ rfl (FlC l) (by kernel_rfl) ?_)
    refine (fpWord (gnew w l (zPk.s_ty 11)) (gne1 _ _ _ _ _) (by omega)).mono ?_
    rintro e w2 ⟨rfl, hK2⟩
    rw [← HV.out]
    rw [← HL2.out] at hK2
    have hK3 := gset (h := hK2) ((zPk.s_ty 11).s_id v) none 0 0
    have HK3 := Lib.hid hK3
    have hsw := HSW.out
    have a1r := hK2.row; have a1f := hK2.free; have a1c := hK2.cell; have a1l := hK2.lt; have a1z := hK2.froz
    have a2r := hK2.tail.row; have a2f := hK2.tail.free; have a2c := hK2.tail.cell; have a2l := hK2.tail.lt; have a2z := hK2.tail.froz
    have a3r := hK2.tail.tail.row; have a3f := hK2.tail.tail.free; have a3c := hK2.tail.tail.cell; have a3l := hK2.tail.tail.lt; have a3z := hK2.tail.tail.froz
    clear hK2 hK3
    go_wp2_with fail
    clear hsw a1r a1f a1c a1l a1z a2r a2f a2c a2l a2z a3r a3f a3c a3l a3z
    obtain ⟨w3, hw3⟩ : ∃ w3, w3 = w2.setRow (w.heap.size + 1 + 1) (PkC ((zPk.s_ty 11).s_id v) none 0 0) := ⟨_, rfl⟩
    rw [← hw3] at HK3 ⊢
    clear hw3
    go_loopw [8] (fun v8 wr => wr = w3) (fun _ _ => 0)
    case atStart => trivial
    case round =>
      obtain rfl := hrel
      have hK4 := HK3.out
      have a1r := hK4.row; have a1f := hK4.free; have a1c := hK4.cell; have a1l := hK4.lt; have a1z := hK4.froz
      have a2r := hK4.tail.row; have a2f := hK4.tail.free; have a2c := hK4.tail.cell; have a2l := hK4.tail.lt; have a2z := hK4.tail.froz
      have a3r := hK4.tail.tail.row; have a3f := hK4.tail.tail.free; have a3c := hK4.tail.tail.cell; have a3l := hK4.tail.tail.lt; have a3z := hK4.tail.tail.froz
      clear hK4
      go_wp2_with fail
      refine ret_pk 4 w.heap.size ((zPk.s_ty 11).s_id v) none 0 0 rfl rfl (by go_simp) rfl ?_
      exact gup_no (HK3.out.swap.tail.swap.set (by intro x hx; simp at hx; subst hx; dsimp only; omega) _).below
end Go.Proofs.YtnaedcennichlaaGreatDoor
