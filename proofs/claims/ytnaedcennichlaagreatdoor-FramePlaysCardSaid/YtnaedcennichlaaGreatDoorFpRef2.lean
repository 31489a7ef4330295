/-
  The document's own framer: Next.
-/
import Derived.Test.YtnaedcennichlaaGreatDoorFpRef
set_option linter.unusedSimpArgs false
set_option linter.unusedVariables false
namespace Go.Proofs.YtnaedcennichlaaGreatDoor
section
open Go.RowKit
def oFpRef21 : Oper := ({ dst := some 16, op := Go.Op.build 36 #[], type := 36, pos := "ref.go:42", after := #[], guard := none } : Oper)
def oFpRef22 : Oper := ({ dst := some 17, op := Go.Op.move (Go.Operand.tmp 0), type := 28, pos := "ref.go:42", after := #[{ on := 6, ground := Go.Ground.gcOnly Go.Departure.lateStores }], guard := none } : Oper)
def oFpRef23 : Oper := ({ dst := some 18, op := Go.Op.nilCheck (Go.Operand.tmp 17), type := 0, pos := "ref.go:42", after := #[{ on := 1, ground := Go.Ground.data }, { on := 6, ground := Go.Ground.gcOnly Go.Departure.lateStores }], guard := none } : Oper)
def oFpRef24 : Oper := ({ dst := some 19, op := Go.Op.fieldAddr 45 (Go.Operand.tmp 18) 2, type := 0, pos := "ref.go:42", after := #[{ on := 2, ground := Go.Ground.data }, { on := 6, ground := Go.Ground.gcOnly Go.Departure.lateStores }], guard := none } : Oper)
def oFpRef25 : Oper := ({ dst := some 20, op := Go.Op.load 37 (Go.Operand.tmp 19), type := 37, pos := "ref.go:42", after := #[{ on := 3, ground := Go.Ground.data }, { on := 6, ground := Go.Ground.gcOnly Go.Departure.lateStores }], guard := none } : Oper)
def oFpRef26 : Oper := ({ dst := none, op := Go.Op.store 36 (Go.Operand.tmp 2) (Go.Operand.tmp 16), type := 0, pos := "ref.go:42", after := #[{ on := 0, ground := Go.Ground.data }, { on := 0, ground := Go.Ground.phase }, { on := 1, ground := Go.Ground.textOnly Go.Departure.lateStores }, { on := 2, ground := Go.Ground.textOnly Go.Departure.lateStores }, { on := 3, ground := Go.Ground.textOnly Go.Departure.lateStores }, { on := 4, ground := Go.Ground.textOnly Go.Departure.lateStores }], guard := none } : Oper)
def oFpRef27 : Oper := ({ dst := some 3, op := Go.Op.assign (Go.Operand.const (Go.Value.bool false)), type := 4, pos := "ref.go:42", after := #[{ on := 5, ground := Go.Ground.chain }, { on := 0, ground := Go.Ground.phase }, { on := 1, ground := Go.Ground.textOnly Go.Departure.lateStores }, { on := 2, ground := Go.Ground.textOnly Go.Departure.lateStores }, { on := 3, ground := Go.Ground.textOnly Go.Departure.lateStores }, { on := 4, ground := Go.Ground.textOnly Go.Departure.lateStores }, { on := 5, ground := Go.Ground.phase }], guard := none } : Oper)
def oFpRef28 : Oper := ({ dst := some 4, op := Go.Op.assign (Go.Operand.tmp 20), type := 37, pos := "ref.go:42", after := #[{ on := 4, ground := Go.Ground.data }, { on := 6, ground := Go.Ground.chain }, { on := 0, ground := Go.Ground.phase }, { on := 1, ground := Go.Ground.phase }, { on := 2, ground := Go.Ground.phase }, { on := 3, ground := Go.Ground.phase }, { on := 4, ground := Go.Ground.phase }, { on := 5, ground := Go.Ground.phase }, { on := 6, ground := Go.Ground.phase }], guard := none } : Oper)
end
open Go.RowKit
set_option maxRecDepth 100000
/-- What Next tells, and what is left. -/
def RNX (w : World) (g : Nat) (m : Int) (P : Pk) (X : List (List UInt8 × Int)) (r : Bool) (er : Int) (s' : List UInt8) (E' : Int) (e : Ending) (w' : World) : Prop :=
  ∃ A c, e = .returned (.tuple #[.agg (PkC P A X.length c), .bool r, .int .i64 er]) ∧ Subs w' A X.length X ∧ (A = none → c = 0) ∧ RF w' g m s' E' ∧ Fd w w' g none
section
variable {w w' : World} {g : Nat} {m E : Int} {s : List UInt8}
set_option maxHeartbeats 2000000 in
theorem rfNextE (h : RF w g m s E) (hE : E ≠ 0) :
    Calls Tryz.prog 11 #[.pointer (some ⟨g, 0, none⟩)] w fun e w' => RNX w g m zPk [] false E s E e w' := by
  have hK0 := (Kp.nil w).new (PkC zPk none 0 0) 36
  have hfb : (E != 0) = true := by simpa using hE
  have H := Lib.hid h
  obtain ⟨b1, b2, b3, b4, b5⟩ := blk_row h
  clear h hE
  go_enter Tryz.func11, Tryz.ntmps11
  go_wp2_with fail
  clear b1 b2 b3 b4 b5
  refine wp_region_held_drew (S := (fun w' => Kp w [(w.heap.size, PkC zPk none 0 0, 36)] w')) (by kernel_rfl) (hK0.drew) (fun hHeld => ?_)
  refine tkY 0 oFpRef21 ?vv6_0 rfl (by kernel_rfl) (by kernel_rfl) (by kernel_rfl) (fun _ _ _ h => h) (by rfl) ?hy6_0 (by assumption) ?rest6_0
  case hy6_0 => (intro w hSw; unfold oFpRef21; (try dsimp only at hSw); (try go_split_ands); go_simp; all_goals with_reducible rfl)
  try simp only [oFpRef21, Act.put, sA, sB, sC]
  refine tkY 1 oFpRef22 ?vv6_1 rfl (by kernel_rfl) (by kernel_rfl) (by kernel_rfl) (fun _ _ _ h => h) (by rfl) ?hy6_1 (by assumption) ?rest6_1
  case hy6_1 => (intro w hSw; unfold oFpRef22; (try dsimp only at hSw); (try go_split_ands); go_simp; all_goals with_reducible rfl)
  try simp only [oFpRef22, Act.put, sA, sB, sC]
  refine tkY 2 oFpRef23 ?vv6_2 rfl (by kernel_rfl) (by kernel_rfl) (by kernel_rfl) (fun _ _ _ h => h) (by rfl) ?hy6_2 (by assumption) ?rest6_2
  case hy6_2 => (intro w hSw; unfold oFpRef23; (try dsimp only at hSw); (try go_split_ands); go_simp; all_goals with_reducible rfl)
  try simp only [oFpRef23, Act.put, sA, sB, sC]
  refine tkY 3 oFpRef24 ?vv6_3 rfl (by kernel_rfl) (by kernel_rfl) (by kernel_rfl) (fun _ _ _ h => h) (by rfl) ?hy6_3 (by assumption) ?rest6_3
  case hy6_3 => (intro w hSw; unfold oFpRef24; (try dsimp only at hSw); (try go_split_ands); go_simp; all_goals with_reducible rfl)
  try simp only [oFpRef24, Act.put, sA, sB, sC]
  refine tkY 4 oFpRef25 ?vv6_4 rfl (by kernel_rfl) (by kernel_rfl) (by kernel_rfl) (fun _ _ _ h => h) (by rfl) ?hy6_4 (by assumption) ?rest6_4
  case hy6_4 => (intro w hSw; unfold oFpRef25; (try dsimp only at hSw); have ⟨b1, b2, b3, b4, b5⟩ := blk_row (H.out.below hSw.below); go_simp; all_goals with_reducible rfl)
  try simp only [oFpRef25, Act.put, sA, sB, sC]
  have c1 := hHeld.row
  have c2 := hHeld.free
  have c3 := hHeld.cell
  have c4 := hHeld.lt
  have c5 := hHeld.froz
  refine wpAnyH_ready (rs := [5]) (by kernel_rfl) (by simp) ?_
  refine AllReadyH.cons (o := oFpRef26) rfl (fun K hK => ?_) AllReadyH.nil
  unfold oFpRef26
  go_simp
  refine hK.out _ _ ?_ (fun hHeld => ?_)
  · (exact hK0.drew)
  clear hK K
  try simp only [oFpRef26, Act.put, sA, sB, sC]
  clear c1 c2 c3 c4 c5
  refine tkY 6 oFpRef27 ?vv6_6 rfl (by kernel_rfl) (by kernel_rfl) (by kernel_rfl) (fun _ _ _ h => h) (by rfl) ?hy6_6 (by assumption) ?rest6_6
  case hy6_6 => (intro w hSw; unfold oFpRef27; (try dsimp only at hSw); (try go_split_ands); go_simp; all_goals with_reducible rfl)
  try simp only [oFpRef27, Act.put, sA, sB, sC]
  refine tkY 7 oFpRef28 ?vv6_7 rfl (by kernel_rfl) (by kernel_rfl) (by kernel_rfl) (fun _ _ _ h => h) (by rfl) ?hy6_7 (by assumption) ?rest6_7
  case hy6_7 => (intro w hSw; unfold oFpRef28; (try dsimp only at hSw); (try go_split_ands); go_simp; all_goals with_reducible rfl)
  try simp only [oFpRef28, Act.put, sA, sB, sC]
  refine wpAnyH_done (by kernel_rfl) ?_ _
  have a1r := hHeld.row; have a1f := hHeld.free; have a1c := hHeld.cell; have a1l := hHeld.lt; have a1z := hHeld.froz
  go_wp2_with fail
  refine ret_pk3 2 3 4 w.heap.size zPk none 0 0 (.bool false) (.int .i64 E) rfl rfl (by go_simp <;> rfl) rfl rfl rfl ?_
  exact ⟨none, 0, rfl, Subs.nil _, fun _ => rfl, H.out.below hHeld.below, Fd.of_below hHeld.below⟩
set_option maxHeartbeats 2000000 in
theorem rfNextN (h : RF w g m [] 0) :
    Calls Tryz.prog 11 #[.pointer (some ⟨g, 0, none⟩)] w fun e w' => RNX w g m zPk [] false 0 [] 0 e w' := by
  have hba := (Below.refl w.heap.size w).alloc (Nat.le_refl _) (.cells (PkC zPk none 0 0) 36)
  have H := Lib.hid h
  obtain ⟨b1, b2, b3, b4, b5⟩ := blk_row h
  clear h
  go_enter Tryz.func11, Tryz.ntmps11
  go_wp2_with fail
  refine ret_pk3 2 3 4 w.heap.size zPk none 0 0 (.bool false) (.int .i64 0) rfl rfl (rowAt_alloc_at _ _ _ (by simp)) rfl rfl rfl ?_
  exact ⟨none, 0, rfl, Subs.nil _, fun _ => rfl, H.out.below hba, Fd.of_below hba⟩
set_option maxHeartbeats 2000000 in
theorem rfNext4 (x : UInt8) (r : List UInt8) (n u er : Int) (fb : Bool) (h : RF w g m (x :: r) 0) (hl : r.length ≤ 1000000) (hr : rdR r = (n, u, er)) (hf : firB x.toNat = fb) (hbad : fb = false ∨ er = 4) :
    Calls Tryz.prog 11 #[.pointer (some ⟨g, 0, none⟩)] w fun e w' => RNX w g m zPk [] false 4 [] 4 e w' := by
  have HR := Lib.hid hr
  have HFB := Lib.hid hf
  clear hr hf
  have hxx := x.toNat_lt
  obtain ⟨S, hS⟩ : ∃ S, S = x :: r := ⟨_, rfl⟩
  have hA : ∀ h0 : 0 < (ByteArray.mk S.toArray).size, (ByteArray.mk S.toArray)[0]'h0 = x := by intro h0; subst hS; rfl
  have hSb : (S == []) = false := by rw [hS]; rfl
  have h1l : 1 ≤ S.length := by rw [hS]; simp
  have hSl : S.length ≤ r.length + 1 := by rw [hS]; simp
  have hSm : r.length + 1 ≤ S.length := by rw [hS]; simp
  have hT : S.tail = r := by rw [hS]; rfl
  have h1i : (1 : Int) ≤ (S.length : Int) := by omega
  have hK0 := (Kp.nil w).new (PkC zPk none 0 0) 36
  have hgl := h.lt
  have hne : ¬ w.heap.size = g := by omega
  have hne2 : ¬ g = w.heap.size := by omega
  rw [← hS] at h
  have H := Lib.hid h
  obtain ⟨b1, b2, b3, b4, b5⟩ := blk_row h
  have HSE := Lib.hid hS
  clear hS h
  cases fb with
  | false =>
    clear hbad
    go_enter Tryz.func11, Tryz.ntmps11
    go_wp2_with fail
    refine (refReadLen_eq r n u er _ (by omega) HR.out).mono ?_
    rintro e w1 ⟨rfl, hb1⟩
    have hK1 := hK0.more hb1
    clear hK0 hb1 b1 b2 b3 b4 b5
    obtain ⟨b1, b2, b3, b4, b5⟩ := blk_row (H.out.below hK1.below)
    go_wp2_with fail
    refine (refFirst5_eq x.toNat _ _ (by omega) (by omega) HFB.out).mono ?_
    rintro e w2 ⟨rfl, hb2⟩
    have hK2 := hK1.more hb2
    clear hK1 hb2 b1 b2 b3 b4 b5
    obtain ⟨b1, b2, b3, b4, b5⟩ := blk_row (H.out.below hK2.below)
    go_wp2_with fail
    have hKX := hK2
    have HX := Lib.hid (H.out.below hKX.below)
    have HGP := Lib.hid (hKX.rows (w.heap.size, PkC zPk none 0 0, 36) (by simp)).2
    have HBX := Lib.hid hKX.below
    clear hKX
    refine (rfFails HX.out 4).mono ?_
    rintro e w8 ⟨rfl, hR8, hd8⟩
    have hgp8 := (hd8.block w.heap.size (Array.getElem?_eq_some_iff.1 HGP.out).1 (by omega) (by simp)).trans HGP.out
    dsimp only at hgp8
    have HR8 := Lib.hid (hR8.setP (cs' := PkC zPk none 0 0) hgp8 (by decide))
    have HD8 := Lib.hid (((Fd.of_below (g := g) (o := none) HBX.out).trans hd8 (NewO.refl _ _)).set2 (Nat.le_refl _) (PkC zPk none 0 0))
    obtain ⟨d1, d2, d3, d4, d5⟩ := blk_row hgp8
    clear hgp8 hR8 hd8 HX HGP HBX
    go_wp2_with fail
    refine ret_pk3 2 3 4 w.heap.size zPk none 0 0 (.bool false) (.int .i64 4) rfl rfl (by go_simp <;> rfl) rfl rfl rfl ?_
    exact ⟨none, 0, rfl, Subs.nil _, fun _ => rfl, HR8.out, HD8.out⟩
  | true =>
    have he4 : (er == 4) = true := by rcases hbad with h9 | h9; cases h9; simpa using h9
    clear hbad
    go_enter Tryz.func11, Tryz.ntmps11
    go_wp2_with fail
    refine (refReadLen_eq r n u er _ (by omega) HR.out).mono ?_
    rintro e w1 ⟨rfl, hb1⟩
    have hK1 := hK0.more hb1
    clear hK0 hb1 b1 b2 b3 b4 b5
    obtain ⟨b1, b2, b3, b4, b5⟩ := blk_row (H.out.below hK1.below)
    go_wp2_with fail
    refine (refFirst5_eq x.toNat _ _ (by omega) (by omega) HFB.out).mono ?_
    rintro e w2 ⟨rfl, hb2⟩
    have hK2 := hK1.more hb2
    clear hK1 hb2 b1 b2 b3 b4 b5
    obtain ⟨b1, b2, b3, b4, b5⟩ := blk_row (H.out.below hK2.below)
    go_wp2_with fail
    have hKX := hK2
    have HX := Lib.hid (H.out.below hKX.below)
    have HGP := Lib.hid (hKX.rows (w.heap.size, PkC zPk none 0 0, 36) (by simp)).2
    have HBX := Lib.hid hKX.below
    clear hKX
    refine (rfFails HX.out 4).mono ?_
    rintro e w8 ⟨rfl, hR8, hd8⟩
    have hgp8 := (hd8.block w.heap.size (Array.getElem?_eq_some_iff.1 HGP.out).1 (by omega) (by simp)).trans HGP.out
    dsimp only at hgp8
    have HR8 := Lib.hid (hR8.setP (cs' := PkC zPk none 0 0) hgp8 (by decide))
    have HD8 := Lib.hid (((Fd.of_below (g := g) (o := none) HBX.out).trans hd8 (NewO.refl _ _)).set2 (Nat.le_refl _) (PkC zPk none 0 0))
    obtain ⟨d1, d2, d3, d4, d5⟩ := blk_row hgp8
    clear hgp8 hR8 hd8 HX HGP HBX
    go_wp2_with fail
    refine ret_pk3 2 3 4 w.heap.size zPk none 0 0 (.bool false) (.int .i64 4) rfl rfl (by go_simp <;> rfl) rfl rfl rfl ?_
    exact ⟨none, 0, rfl, Subs.nil _, fun _ => rfl, HR8.out, HD8.out⟩
set_option maxHeartbeats 2000000 in
theorem rfNext2 (x : UInt8) (r : List UInt8) (h : RF w g m (x :: r) 0) (hl : r.length ≤ 1000000) (hr : rdR r = (0, 0, 2)) (hf : firB x.toNat = true) :
    Calls Tryz.prog 11 #[.pointer (some ⟨g, 0, none⟩)] w fun e w' => RNX w g m zPk [] false 0 (x :: r) 0 e w' := by
  have HR := Lib.hid hr
  have HFB := Lib.hid hf
  have H9 := Lib.hid h
  obtain ⟨n, hn⟩ : ∃ n : Int, n = 0 := ⟨_, rfl⟩
  obtain ⟨u, hu⟩ : ∃ n : Int, n = 0 := ⟨_, rfl⟩
  obtain ⟨er, her⟩ : ∃ n : Int, n = 2 := ⟨_, rfl⟩
  rw [show ((0 : Int), (0 : Int), (2 : Int)) = (n, u, er) by rw [hn, hu, her]] at HR
  have e1 : (er == 4) = false := by rw [her]; rfl
  have e2 : (er == 0) = false := by rw [her]; rfl
  have e3 : (er != 0) = true := by rw [her]; rfl
  clear hr hf hn hu her
  have hxx := x.toNat_lt
  obtain ⟨S, hS⟩ : ∃ S, S = x :: r := ⟨_, rfl⟩
  have hA : ∀ h0 : 0 < (ByteArray.mk S.toArray).size, (ByteArray.mk S.toArray)[0]'h0 = x := by intro h0; subst hS; rfl
  have hSb : (S == []) = false := by rw [hS]; rfl
  have h1l : 1 ≤ S.length := by rw [hS]; simp
  have hSl : S.length ≤ r.length + 1 := by rw [hS]; simp
  have hSm : r.length + 1 ≤ S.length := by rw [hS]; simp
  have hT : S.tail = r := by rw [hS]; rfl
  have h1i : (1 : Int) ≤ (S.length : Int) := by omega
  have hK0 := (Kp.nil w).new (PkC zPk none 0 0) 36
  have hgl := h.lt
  have hne : ¬ w.heap.size = g := by omega
  have hne2 : ¬ g = w.heap.size := by omega
  rw [← hS] at h
  have H := Lib.hid h
  obtain ⟨b1, b2, b3, b4, b5⟩ := blk_row h
  have HSE := Lib.hid hS
  clear hS h
  go_enter Tryz.func11, Tryz.ntmps11
  go_wp2_with fail
  refine (refReadLen_eq r n u er _ (by omega) HR.out).mono ?_
  rintro e w1 ⟨rfl, hb1⟩
  have hK1 := hK0.more hb1
  clear hK0 hb1 b1 b2 b3 b4 b5
  obtain ⟨b1, b2, b3, b4, b5⟩ := blk_row (H.out.below hK1.below)
  go_wp2_with fail
  refine (refFirst5_eq x.toNat _ _ (by omega) (by omega) HFB.out).mono ?_
  rintro e w2 ⟨rfl, hb2⟩
  have hK2 := hK1.more hb2
  clear hK1 hb2 b1 b2 b3 b4 b5
  obtain ⟨b1, b2, b3, b4, b5⟩ := blk_row (H.out.below hK2.below)
  have HBX := Lib.hid (hK2.set (by simp) (PkC zPk none 0 0)).below
  have a1r := hK2.row; have a1f := hK2.free; have a1c := hK2.cell; have a1l := hK2.lt; have a1z := hK2.froz
  clear hK2
  go_wp2_with fail
  refine ret_pk3 2 3 4 w.heap.size zPk none 0 0 (.bool false) (.int .i64 0) rfl rfl (by go_simp <;> rfl) rfl rfl rfl ?_
  exact ⟨none, 0, rfl, Subs.nil _, fun _ => rfl, H9.out.below HBX.out, Fd.of_below HBX.out⟩
set_option maxHeartbeats 2000000 in
theorem rfNext3 (x : UInt8) (r : List UInt8) (n U : Nat) (h : RF w g m (x :: r) 0) (hl : r.length ≤ 1000000) (hr : rdR r = ((n : Int), (U : Int), 0)) (hf : firB x.toNat = true) (hn : n ≤ 268435455) (hu : U ≤ 4) (hm : m < 1 + U + n) :
    Calls Tryz.prog 11 #[.pointer (some ⟨g, 0, none⟩)] w fun e w' => RNX w g m zPk [] false 3 [] 3 e w' := by
  have HR := Lib.hid hr
  have HFB := Lib.hid hf
  have hxx := x.toNat_lt
  obtain ⟨S, hS⟩ : ∃ S, S = x :: r := ⟨_, rfl⟩
  have hA : ∀ h0 : 0 < (ByteArray.mk S.toArray).size, (ByteArray.mk S.toArray)[0]'h0 = x := by intro h0; subst hS; rfl
  have hSb : (S == []) = false := by rw [hS]; rfl
  have h1l : 1 ≤ S.length := by rw [hS]; simp
  have hSl : S.length ≤ r.length + 1 := by rw [hS]; simp
  have hSm : r.length + 1 ≤ S.length := by rw [hS]; simp
  have hT : S.tail = r := by rw [hS]; rfl
  have h1i : (1 : Int) ≤ (S.length : Int) := by omega
  have hK0 := (Kp.nil w).new (PkC zPk none 0 0) 36
  have hgl := h.lt
  have hne : ¬ w.heap.size = g := by omega
  have hne2 : ¬ g = w.heap.size := by omega
  rw [← hS] at h
  have H := Lib.hid h
  obtain ⟨b1, b2, b3, b4, b5⟩ := blk_row h
  have HSE := Lib.hid hS
  clear hS h
  obtain ⟨U1, hU1⟩ : ∃ U1 : Nat, U1 = U + 1 := ⟨_, rfl⟩
  obtain ⟨N, hN⟩ : ∃ N : Nat, N = U1 + n := ⟨_, rfl⟩
  have hUI : (1 : Int) + (U : Int) = (U1 : Int) := by omega
  have hNI : (U1 : Int) + (n : Int) = (N : Int) := by omega
  have hwU : IntKind.i64.wrap (U1 : Int) = (U1 : Int) := IntWalk.i64_in _ (by omega)
  have hwN : IntKind.i64.wrap (N : Int) = (N : Int) := IntWalk.i64_in _ (by omega)
  have hmN : m < (N : Int) := by omega
  clear hr hf hm hN hU1
  go_enter Tryz.func11, Tryz.ntmps11
  go_wp2_with fail
  refine (refReadLen_eq r n U 0 _ (by omega) HR.out).mono ?_
  rintro e w1 ⟨rfl, hb1⟩
  have hK1 := hK0.more hb1
  clear hK0 hb1 b1 b2 b3 b4 b5
  obtain ⟨b1, b2, b3, b4, b5⟩ := blk_row (H.out.below hK1.below)
  go_wp2_with fail
  refine (refFirst5_eq x.toNat true _ (by omega) (by omega) HFB.out).mono ?_
  rintro e w2 ⟨rfl, hb2⟩
  have hK2 := hK1.more hb2
  clear hK1 hb2 b1 b2 b3 b4 b5
  obtain ⟨b1, b2, b3, b4, b5⟩ := blk_row (H.out.below hK2.below)
  go_wp2_with fail
  have hKX := hK2
  have HX := Lib.hid (H.out.below hKX.below)
  have HGP := Lib.hid (hKX.rows (w.heap.size, PkC zPk none 0 0, 36) (by simp)).2
  have HBX := Lib.hid hKX.below
  clear hKX
  refine (rfFails HX.out 3).mono ?_
  rintro e w8 ⟨rfl, hR8, hd8⟩
  have hgp8 := (hd8.block w.heap.size (Array.getElem?_eq_some_iff.1 HGP.out).1 (by omega) (by simp)).trans HGP.out
  dsimp only at hgp8
  have HR8 := Lib.hid (hR8.setP (cs' := PkC zPk none 0 0) hgp8 (by decide))
  have HD8 := Lib.hid (((Fd.of_below (g := g) (o := none) HBX.out).trans hd8 (NewO.refl _ _)).set2 (Nat.le_refl _) (PkC zPk none 0 0))
  obtain ⟨d1, d2, d3, d4, d5⟩ := blk_row hgp8
  clear hgp8 hR8 hd8 HX HGP HBX
  go_wp2_with fail
  refine ret_pk3 2 3 4 w.heap.size zPk none 0 0 (.bool false) (.int .i64 3) rfl rfl (by go_simp <;> rfl) rfl rfl rfl ?_
  exact ⟨none, 0, rfl, Subs.nil _, fun _ => rfl, HR8.out, HD8.out⟩
set_option maxHeartbeats 2000000 in
theorem rfNextS (x : UInt8) (r : List UInt8) (n U : Nat) (h : RF w g m (x :: r) 0) (hl : r.length ≤ 1000000) (hr : rdR r = ((n : Int), (U : Int), 0)) (hf : firB x.toNat = true) (hn : n ≤ 268435455) (hu : U ≤ 4) (hm : ¬ m < 1 + U + n) (hs : r.length < U + n) :
    Calls Tryz.prog 11 #[.pointer (some ⟨g, 0, none⟩)] w fun e w' => RNX w g m zPk [] false 0 (x :: r) 0 e w' := by
  have HR := Lib.hid hr
  have HFB := Lib.hid hf
  have H9 := Lib.hid h
  have hxx := x.toNat_lt
  obtain ⟨S, hS⟩ : ∃ S, S = x :: r := ⟨_, rfl⟩
  have hA : ∀ h0 : 0 < (ByteArray.mk S.toArray).size, (ByteArray.mk S.toArray)[0]'h0 = x := by intro h0; subst hS; rfl
  have hSb : (S == []) = false := by rw [hS]; rfl
  have h1l : 1 ≤ S.length := by rw [hS]; simp
  have hSl : S.length ≤ r.length + 1 := by rw [hS]; simp
  have hSm : r.length + 1 ≤ S.length := by rw [hS]; simp
  have hT : S.tail = r := by rw [hS]; rfl
  have h1i : (1 : Int) ≤ (S.length : Int) := by omega
  have hK0 := (Kp.nil w).new (PkC zPk none 0 0) 36
  have hgl := h.lt
  have hne : ¬ w.heap.size = g := by omega
  have hne2 : ¬ g = w.heap.size := by omega
  rw [← hS] at h
  have H := Lib.hid h
  obtain ⟨b1, b2, b3, b4, b5⟩ := blk_row h
  have HSE := Lib.hid hS
  clear hS h
  obtain ⟨U1, hU1⟩ : ∃ U1 : Nat, U1 = U + 1 := ⟨_, rfl⟩
  obtain ⟨N, hN⟩ : ∃ N : Nat, N = U1 + n := ⟨_, rfl⟩
  have hUI : (1 : Int) + (U : Int) = (U1 : Int) := by omega
  have hNI : (U1 : Int) + (n : Int) = (N : Int) := by omega
  have hwU : IntKind.i64.wrap (U1 : Int) = (U1 : Int) := IntWalk.i64_in _ (by omega)
  have hwN : IntKind.i64.wrap (N : Int) = (N : Int) := IntWalk.i64_in _ (by omega)
  have hmN : ¬ m < (N : Int) := by omega
  have hsN : (S.length : Int) < (N : Int) := by omega
  have hsN2 : S.length < N := by omega
  clear hr hf hm hs hN hU1
  go_enter Tryz.func11, Tryz.ntmps11
  go_wp2_with fail
  refine (refReadLen_eq r n U 0 _ (by omega) HR.out).mono ?_
  rintro e w1 ⟨rfl, hb1⟩
  have hK1 := hK0.more hb1
  clear hK0 hb1 b1 b2 b3 b4 b5
  obtain ⟨b1, b2, b3, b4, b5⟩ := blk_row (H.out.below hK1.below)
  go_wp2_with fail
  refine (refFirst5_eq x.toNat true _ (by omega) (by omega) HFB.out).mono ?_
  rintro e w2 ⟨rfl, hb2⟩
  have hK2 := hK1.more hb2
  clear hK1 hb2 b1 b2 b3 b4 b5
  obtain ⟨b1, b2, b3, b4, b5⟩ := blk_row (H.out.below hK2.below)
  have HBX := Lib.hid (hK2.set (by simp) (PkC zPk none 0 0)).below
  have a1r := hK2.row; have a1f := hK2.free; have a1c := hK2.cell; have a1l := hK2.lt; have a1z := hK2.froz
  clear hK2
  go_wp2_with fail
  refine ret_pk3 2 3 4 w.heap.size zPk none 0 0 (.bool false) (.int .i64 0) rfl rfl (by go_simp <;> rfl) rfl rfl rfl ?_
  exact ⟨none, 0, rfl, Subs.nil _, fun _ => rfl, H9.out.below HBX.out, Fd.of_below HBX.out⟩
set_option maxHeartbeats 2000000 in
theorem rfNextG (x : UInt8) (r : List UInt8) (n U : Nat) (er9 : Int) (h : RF w g m (x :: r) 0) (hl : r.length ≤ 30000) (hr : rdR r = ((n : Int), (U : Int), 0)) (hf : firB x.toNat = true) (hn : n ≤ 268435455) (hu : U ≤ 4) (hm : ¬ m < 1 + U + n) (hs : ¬ r.length < U + n) (P : Pk) (X : List (List UInt8 × Int)) (N9 : Int) (hd : decR (x :: r) = (P, X, N9, er9)) (he : er9 ≠ 0) :
    Calls Tryz.prog 11 #[.pointer (some ⟨g, 0, none⟩)] w fun e w' => RNX w g m zPk [] false er9 [] er9 e w' := by
  have HR := Lib.hid hr
  have HFB := Lib.hid hf
  have HDD := Lib.hid hd
  have he9 : (er9 != 0) = true := by simpa using he
  have hxx := x.toNat_lt
  obtain ⟨S, hS⟩ : ∃ S, S = x :: r := ⟨_, rfl⟩
  have hA : ∀ h0 : 0 < (ByteArray.mk S.toArray).size, (ByteArray.mk S.toArray)[0]'h0 = x := by intro h0; subst hS; rfl
  have hSb : (S == []) = false := by rw [hS]; rfl
  have h1l : 1 ≤ S.length := by rw [hS]; simp
  have hSl : S.length ≤ r.length + 1 := by rw [hS]; simp
  have hSm : r.length + 1 ≤ S.length := by rw [hS]; simp
  have hT : S.tail = r := by rw [hS]; rfl
  have h1i : (1 : Int) ≤ (S.length : Int) := by omega
  have hK0 := (Kp.nil w).new (PkC zPk none 0 0) 36
  have hgl := h.lt
  have hne : ¬ w.heap.size = g := by omega
  have hne2 : ¬ g = w.heap.size := by omega
  rw [← hS] at h
  have H := Lib.hid h
  obtain ⟨b1, b2, b3, b4, b5⟩ := blk_row h
  have HSE := Lib.hid hS
  clear hS h
  obtain ⟨U1, hU1⟩ : ∃ U1 : Nat, U1 = U + 1 := ⟨_, rfl⟩
  obtain ⟨N, hN⟩ : ∃ N : Nat, N = U1 + n := ⟨_, rfl⟩
  have hUI : (1 : Int) + (U : Int) = (U1 : Int) := by omega
  have hNI : (U1 : Int) + (n : Int) = (N : Int) := by omega
  have hwU : IntKind.i64.wrap (U1 : Int) = (U1 : Int) := IntWalk.i64_in _ (by omega)
  have hwN : IntKind.i64.wrap (N : Int) = (N : Int) := IntWalk.i64_in _ (by omega)
  have hmN : ¬ m < (N : Int) := by omega
  have hsN : ¬ (S.length : Int) < (N : Int) := by omega
  have hsN2 : ¬ S.length < N := by omega
  have HDS : Hid (decR S = (P, X, N9, er9)) := by show _ = _; rw [HSE.out]; exact HDD.out
  clear hr hf hm hs hN hU1 hd he HDD
  go_enter Tryz.func11, Tryz.ntmps11
  go_wp2_with fail
  refine (refReadLen_eq r n U 0 _ (by omega) HR.out).mono ?_
  rintro e w1 ⟨rfl, hb1⟩
  have hK1 := hK0.more hb1
  clear hK0 hb1 b1 b2 b3 b4 b5
  obtain ⟨b1, b2, b3, b4, b5⟩ := blk_row (H.out.below hK1.below)
  go_wp2_with fail
  refine (refFirst5_eq x.toNat true _ (by omega) (by omega) HFB.out).mono ?_
  rintro e w2 ⟨rfl, hb2⟩
  have hK2 := hK1.more hb2
  clear hK1 hb2 b1 b2 b3 b4 b5
  obtain ⟨b1, b2, b3, b4, b5⟩ := blk_row (H.out.below hK2.below)
  go_wp2_with fail
  refine (refDecode_any S _ (by omega) P X N9 er9 HDS.out).mono ?_
  rintro e w5 ⟨A5, c5, rfl, hb5, _, _, _⟩
  have hK5 := hK2.more hb5
  clear hK2 hb5 b1 b2 b3 b4 b5
  go_wp2_with fail
  have hKX := (hK5.new (PkC P A5 X.length c5) 36).tail
  have HX := Lib.hid (H.out.below hKX.below)
  have HGP := Lib.hid (hKX.rows (w.heap.size, PkC zPk none 0 0, 36) (by simp)).2
  have HBX := Lib.hid hKX.below
  clear hKX
  refine (rfFails HX.out er9).mono ?_
  rintro e w8 ⟨rfl, hR8, hd8⟩
  have hgp8 := (hd8.block w.heap.size (Array.getElem?_eq_some_iff.1 HGP.out).1 (by omega) (by simp)).trans HGP.out
  dsimp only at hgp8
  have HR8 := Lib.hid (hR8.setP (cs' := PkC zPk none 0 0) hgp8 (by decide))
  have HD8 := Lib.hid (((Fd.of_below (g := g) (o := none) HBX.out).trans hd8 (NewO.refl _ _)).set2 (Nat.le_refl _) (PkC zPk none 0 0))
  obtain ⟨d1, d2, d3, d4, d5⟩ := blk_row hgp8
  clear hgp8 hR8 hd8 HX HGP HBX
  go_wp2_with fail
  refine ret_pk3 2 3 4 w.heap.size zPk none 0 0 (.bool false) (.int .i64 er9) rfl rfl (by go_simp <;> rfl) rfl rfl rfl ?_
  exact ⟨none, 0, rfl, Subs.nil _, fun _ => rfl, HR8.out, HD8.out⟩
set_option maxHeartbeats 2000000 in
theorem rfNextO (x : UInt8) (r : List UInt8) (n U : Nat) (h : RF w g m (x :: r) 0) (hl : r.length ≤ 30000) (hr : rdR r = ((n : Int), (U : Int), 0)) (hf : firB x.toNat = true) (hn : n ≤ 268435455) (hu : U ≤ 4) (hm : ¬ m < 1 + U + n) (hs : ¬ r.length < U + n) (P : Pk) (X : List (List UInt8 × Int)) (N9 : Nat) (hd : decR (x :: r) = (P, X, (N9 : Int), 0)) (hN9 : N9 ≤ r.length + 1) :
    Calls Tryz.prog 11 #[.pointer (some ⟨g, 0, none⟩)] w fun e w' => RNX w g m P X true 0 ((x :: r).drop N9) 0 e w' := by
  have HR := Lib.hid hr
  have HFB := Lib.hid hf
  have HDD := Lib.hid hd
  have hxx := x.toNat_lt
  obtain ⟨S, hS⟩ : ∃ S, S = x :: r := ⟨_, rfl⟩
  have hA : ∀ h0 : 0 < (ByteArray.mk S.toArray).size, (ByteArray.mk S.toArray)[0]'h0 = x := by intro h0; subst hS; rfl
  have hSb : (S == []) = false := by rw [hS]; rfl
  have h1l : 1 ≤ S.length := by rw [hS]; simp
  have hSl : S.length ≤ r.length + 1 := by rw [hS]; simp
  have hSm : r.length + 1 ≤ S.length := by rw [hS]; simp
  have hT : S.tail = r := by rw [hS]; rfl
  have h1i : (1 : Int) ≤ (S.length : Int) := by omega
  have hK0 := (Kp.nil w).new (PkC zPk none 0 0) 36
  have hgl := h.lt
  have hne : ¬ w.heap.size = g := by omega
  have hne2 : ¬ g = w.heap.size := by omega
  rw [← hS] at h
  have H := Lib.hid h
  obtain ⟨b1, b2, b3, b4, b5⟩ := blk_row h
  have HSE := Lib.hid hS
  clear hS h
  obtain ⟨U1, hU1⟩ : ∃ U1 : Nat, U1 = U + 1 := ⟨_, rfl⟩
  obtain ⟨N, hN⟩ : ∃ N : Nat, N = U1 + n := ⟨_, rfl⟩
  have hUI : (1 : Int) + (U : Int) = (U1 : Int) := by omega
  have hNI : (U1 : Int) + (n : Int) = (N : Int) := by omega
  have hwU : IntKind.i64.wrap (U1 : Int) = (U1 : Int) := IntWalk.i64_in _ (by omega)
  have hwN : IntKind.i64.wrap (N : Int) = (N : Int) := IntWalk.i64_in _ (by omega)
  have hmN : ¬ m < (N : Int) := by omega
  have hsN : ¬ (S.length : Int) < (N : Int) := by omega
  have hsN2 : ¬ S.length < N := by omega
  have hq0 : (0 : Int) ≤ (N9 : Int) := by omega
  have hq1 : (N9 : Int) ≤ (S.length : Int) := by omega
  have HDS : Hid (decR S = (P, X, (N9 : Int), 0)) := by show _ = _; rw [HSE.out]; exact HDD.out
  obtain ⟨T, hT9⟩ : ∃ T, T = S.drop N9 := ⟨_, rfl⟩
  have HT9 : Hid (T = (x :: r).drop N9) := by show _ = _; rw [hT9, HSE.out]
  have hTk : List.drop N9 (List.take S.length S) = T := by rw [List.take_length, hT9]
  have hTk2 : List.drop N9 S = T := hT9.symm
  clear hr hf hm hs hN hU1 hd HDD hT9
  go_enter Tryz.func11, Tryz.ntmps11
  go_wp2_with fail
  refine (refReadLen_eq r n U 0 _ (by omega) HR.out).mono ?_
  rintro e w1 ⟨rfl, hb1⟩
  have hK1 := hK0.more hb1
  clear hK0 hb1 b1 b2 b3 b4 b5
  obtain ⟨b1, b2, b3, b4, b5⟩ := blk_row (H.out.below hK1.below)
  go_wp2_with fail
  refine (refFirst5_eq x.toNat true _ (by omega) (by omega) HFB.out).mono ?_
  rintro e w2 ⟨rfl, hb2⟩
  have hK2 := hK1.more hb2
  clear hK1 hb2 b1 b2 b3 b4 b5
  obtain ⟨b1, b2, b3, b4, b5⟩ := blk_row (H.out.below hK2.below)
  go_wp2_with fail
  refine (refDecode_any S _ (by omega) P X N9 0 HDS.out).mono ?_
  rintro e w5 ⟨A5, c5, rfl, hb5, hS5, hc5, hlo5⟩
  have hK5 := hK2.more hb5
  have HLO : Hid (0 < X.length → ∀ b o, A5 = some ⟨b, o, none⟩ → w.heap.size < b) := fun hn b o e => by have h1 := hlo5 hn b o e; have h2 := hK2.lt; omega
  have HS5 := Lib.hid hS5
  have HC5 := Lib.hid hc5
  clear hK2 hb5 b1 b2 b3 b4 b5 hS5 hc5 hlo5
  obtain ⟨b1, b2, b3, b4, b5⟩ := blk_row (H.out.below hK5.below)
  have HKX := Lib.hid hK5
  have d1r := hK5.row; have d1f := hK5.free; have d1c := hK5.cell; have d1l := hK5.lt; have d1z := hK5.froz
  clear hK5
  go_wp2_with fail
  have hgp5 := (HKX.out.rows (w.heap.size, PkC zPk none 0 0, 36) (by simp)).2
  dsimp only at hgp5
  have hR6 := (H.out.below HKX.out.below).set T 0
  have hp6 := (setRow_other w5 g w.heap.size (RfC m T 0) (by omega)).trans hgp5
  have hR7 := hR6.setP (cs' := PkC P A5 X.length c5) hp6 (by decide)
  have hp7 := setRow_heap _ w.heap.size _ (PkC P A5 X.length c5) _ _ hp6
  have hS6 := HS5.out.setLo (g := g) (fun hn b o e => by have := HLO.out hn b o e; omega) (RfC m T 0)
  have hS7 := hS6.setLo (g := w.heap.size) HLO.out (PkC P A5 X.length c5)
  have hd7 := ((Fd.of_below (g := g) (o := none) HKX.out.below).set (RfC m T 0)).set2 (Nat.le_refl _) (PkC P A5 X.length c5)
  obtain ⟨w7, hw7⟩ : ∃ w7, w7 = (w5.setRow g (RfC m T 0)).setRow w.heap.size (PkC P A5 X.length c5) := ⟨_, rfl⟩
  rw [← hw7] at hR7 hp7 hS7 hd7 ⊢
  have hba := (Below.refl w7.heap.size w7).alloc (Nat.le_refl _) (.cells (PkC P A5 X.length c5) 36)
  refine ret_pk3 2 3 4 w.heap.size P A5 X.length c5 (.bool true) (.int .i64 0) rfl rfl (rowAt_blk ((hba.block _ (Array.getElem?_eq_some_iff.1 hp7).1).trans hp7)) rfl rfl rfl ?_
  rw [← HT9.out]
  exact ⟨A5, c5, rfl, hS7.below hba, HC5.out, hR7.below hba, hd7.more hba⟩
end
end Go.Proofs.YtnaedcennichlaaGreatDoor
