/-
  frame: Next.
-/
import Derived.Test.YtncgkkhpcgdcaaaDoorFrDec
set_option linter.unusedSimpArgs false
set_option linter.unusedVariables false
namespace Go.Proofs.YtncgkkhpcgdcaaaDoor
open Go.RowKit
set_option maxRecDepth 100000
/-- What Next tells, and what is left. -/
def nxR (m : Int) (b : List UInt8) (f : Int) : (Pk × List (List UInt8 × Int)) × Bool × Int × List UInt8 × Int :=
  if f = 0 then
    if (dcR m b).2.2.2 = 0 then (((dcR m b).1, (dcR m b).2.1), decide (0 < (dcR m b).2.2.1), 0, b.drop (dcR m b).2.2.1.toNat, 0) else ((zPk, []), false, (dcR m b).2.2.2, [], (dcR m b).2.2.2)
  else ((zPk, []), false, f, b, f)
/-- A packet that is told, and a bool, and an error. -/
def NEX (w : World) (P : Pk) (X : List (List UInt8 × Int)) (r : Bool) (er : Int) (e : Ending) (w' : World) : Prop :=
  ∃ A c, e = .returned (.tuple #[.agg (PkC P A X.length c), .bool r, .int .i64 er]) ∧ Subs w' A X.length X ∧ (A = none → c = 0) ∧ SubT w' A X.length
theorem nex_no {w w' : World} {er : Int} : NEX w zPk [] false er (.returned (.tuple #[.agg (PkC zPk none 0 0), .bool false, .int .i64 er])) w' := ⟨none, 0, rfl, Subs.nil _, fun _ => rfl, fun hn => absurd hn (Nat.lt_irrefl 0)⟩
section
variable {B : Nat} {w w' : World} {g gp : Nat} {o : Option Nat} {m : Int} {b : List UInt8} {f : Int} {cs cs' : Array Value} {t : TypeId}
theorem Fr.keepS (h : Fr B w g o m b f) (hd : Fd w w' g o) : KeepS w w' := ⟨hd.size, fun _ _ hb => h.other hd hb (by decide) (by decide)⟩
theorem Fr.keepD (h : Fr B w g o m b f) (hd : Fd w w' g o) : KeepD w w' := ⟨h.keepS hd, fun _ _ hb => h.other hd hb (by decide) (by decide)⟩
theorem keepS_set (hg : w.heap[gp]? = some (.cells cs t (0, 0))) (ht : t ≠ 57) : KeepS w (w.setRow gp cs') :=
  ⟨by simp, fun b cur hb => (setRow_other w gp b cs' (by
    rintro rfl
    rw [hb] at hg
    injection hg with hg
    injection hg with _ h4 _
    exact ht h4.symm)).trans hb⟩
theorem Fd.set2 {w1 : World} (h : Fd w w1 g o) (hg : w.heap.size ≤ gp) (cs : Array Value) : Fd w (w1.setRow gp cs) g o := ⟨h.os, h.tape, h.output, by simpa using h.size, fun b hl h1 h2 => (setRow_other w1 gp b cs (by omega)).trans (h.block b hl h1 h2)⟩
/-- A store into a block that is none of the framer's. -/
theorem Fr.setP (h : Fr B w g o m b f) (hg : w.heap[gp]? = some (.cells cs t (0, 0))) (h1 : t ≠ 43) (h2 : t ≠ 5) : Fr B (w.setRow gp cs') g o m b f := by
  obtain ⟨A, n, c, k, L, hS, hr⟩ := h
  refine ⟨A, n, c, k, L, ⟨(setRow_other w gp g cs' ?_).trans hS.heap, hS.base, own_set hS.own hg (fun e => h2 e.symm), hS.le, hS.lo, hS.hi⟩, hr⟩
  rintro rfl
  have h3 := hS.heap
  rw [h3] at hg
  injection hg with hg
  injection hg with _ h4 _
  exact h1 h4.symm
/-- The error is written. -/
theorem Fr.setF (h : Fr B w g o m b f) (e : Int) : ∃ A n c k L, FrS B w g m A n c k L f ∧ Fr B (w.setRow g (FrC m A n c k e)) g o m b e := by
  obtain ⟨A, n, c, k, L, hS, h1, h2, h3⟩ := h
  exact ⟨A, n, c, k, L, hS, A, n, c, k, L, ⟨setRow_heap w g _ _ _ _ hS.heap, hS.base, own_set hS.own hS.heap (by decide), hS.le, hS.lo, hS.hi⟩, h1, h2, h3⟩
theorem frDecode' (h : Fr B w g o m b f) (hG : ∀ w', Below w.heap.size w w' → Glo w') (hb : b.length ≤ 900000000) (P : Pk) (X : List (List UInt8 × Int)) (N E : Int) (hD : dcR m b = (P, X, N, E)) :
    Calls Tryd.prog 17 #[.pointer (some ⟨g, 0, none⟩)] w fun e w' => DEC w P X N E e w' := by
  obtain ⟨A, n, c, k, L, hS, rfl, h2, h3⟩ := h
  have hl := hS.len
  have hk := hS.le
  rw [List.length_drop, hl] at hb
  exact frDecode hS hG (by omega) _ rfl P X N E hD
set_option maxHeartbeats 2000000 in
theorem frNextE (h : Fr B w g o m b f) (hf : f ≠ 0) :
    Calls Tryd.prog 8 #[.pointer (some ⟨g, 0, none⟩)] w fun e w' => NEX w zPk [] false f e w' ∧ Below w.heap.size w w' := by
  obtain ⟨A, n, c, k, L, hS, rfl, h2, h3⟩ := h
  have hfb : (f != 0) = true := by simpa using hf
  have hfb2 : (f == 0) = false := by simpa using hf
  have H := Lib.hid hS
  have hK0 := (Kp.nil w).new (PkC zPk none 0 0) 30
  clear hS h3 hf
  go_enter Tryd.func8, Tryd.ntmps8
  go_wp2_with fail
  refine (frMade (H.out.below hK0.below)).mono ?_
  rintro e w1 ⟨rfl, rfl⟩
  obtain ⟨w2, hw2⟩ : ∃ w2, w2 = w.alloc (.cells (PkC zPk none 0 0) 30) := ⟨_, rfl⟩
  rw [← hw2] at hK0 ⊢
  clear hw2
  obtain ⟨b1, b2, b3, b4, b5⟩ := blk_row (H.out.below hK0.below).heap
  go_wp2_with fail
  clear b1 b2 b3 b4 b5
  refine wp_region_held_drew (S := (fun w' => Kp w [(w.heap.size, PkC zPk none 0 0, 30)] w')) (by kernel_rfl) (hK0.drew) (fun hHeld => ?_)
  refine wpAnyH_take (i := 0) (oi := ({ dst := some 15, op := Go.Op.build 30 #[], type := 30, pos := "frame.go:44", after := #[], guard := none } : Oper)) (v := ?vv1_0) rfl (by kernel_rfl) (by kernel_rfl) (by kernel_rfl) (fun _ _ _ h => h) (Or.inl ⟨by rfl, ?hy1_0⟩) (by assumption) ?rest1_0
  case hy1_0 => (intro w hSw; (try dsimp only at hSw); (try go_split_ands); go_simp; all_goals with_reducible rfl)
  try simp only [Act.put, List.setIfInBounds_toArray, List.set_cons_zero, List.set_cons_succ]
  refine wpAnyH_take (i := 1) (oi := ({ dst := some 16, op := Go.Op.move (Go.Operand.tmp 0), type := 22, pos := "frame.go:44", after := #[{ on := 6, ground := Go.Ground.gcOnly Go.Departure.lateStores }], guard := none } : Oper)) (v := ?vv1_1) rfl (by kernel_rfl) (by kernel_rfl) (by kernel_rfl) (fun _ _ _ h => h) (Or.inl ⟨by rfl, ?hy1_1⟩) (by assumption) ?rest1_1
  case hy1_1 => (intro w hSw; (try dsimp only at hSw); (try go_split_ands); go_simp; all_goals with_reducible rfl)
  try simp only [Act.put, List.setIfInBounds_toArray, List.set_cons_zero, List.set_cons_succ]
  refine wpAnyH_take (i := 2) (oi := ({ dst := some 17, op := Go.Op.nilCheck (Go.Operand.tmp 16), type := 0, pos := "frame.go:44", after := #[{ on := 1, ground := Go.Ground.data }, { on := 6, ground := Go.Ground.gcOnly Go.Departure.lateStores }], guard := none } : Oper)) (v := ?vv1_2) rfl (by kernel_rfl) (by kernel_rfl) (by kernel_rfl) (fun _ _ _ h => h) (Or.inl ⟨by rfl, ?hy1_2⟩) (by assumption) ?rest1_2
  case hy1_2 => (intro w hSw; (try dsimp only at hSw); (try go_split_ands); go_simp; all_goals with_reducible rfl)
  try simp only [Act.put, List.setIfInBounds_toArray, List.set_cons_zero, List.set_cons_succ]
  refine wpAnyH_take (i := 3) (oi := ({ dst := some 18, op := Go.Op.fieldAddr 43 (Go.Operand.tmp 17) 3, type := 0, pos := "frame.go:44", after := #[{ on := 2, ground := Go.Ground.data }, { on := 6, ground := Go.Ground.gcOnly Go.Departure.lateStores }], guard := none } : Oper)) (v := ?vv1_3) rfl (by kernel_rfl) (by kernel_rfl) (by kernel_rfl) (fun _ _ _ h => h) (Or.inl ⟨by rfl, ?hy1_3⟩) (by assumption) ?rest1_3
  case hy1_3 => (intro w hSw; (try dsimp only at hSw); (try go_split_ands); go_simp; all_goals with_reducible rfl)
  try simp only [Act.put, List.setIfInBounds_toArray, List.set_cons_zero, List.set_cons_succ]
  refine wpAnyH_take (i := 4) (oi := ({ dst := some 19, op := Go.Op.load 31 (Go.Operand.tmp 18), type := 31, pos := "frame.go:44", after := #[{ on := 3, ground := Go.Ground.data }, { on := 6, ground := Go.Ground.gcOnly Go.Departure.lateStores }], guard := none } : Oper)) (v := ?vv1_4) rfl (by kernel_rfl) (by kernel_rfl) (by kernel_rfl) (fun _ _ _ h => h) (Or.inl ⟨by rfl, ?hy1_4⟩) (by assumption) ?rest1_4
  case hy1_4 => (intro w hSw; (try dsimp only at hSw); have ⟨b1, b2, b3, b4, b5⟩ := blk_row (H.out.below hSw.below).heap; go_simp; all_goals with_reducible rfl)
  try simp only [Act.put, List.setIfInBounds_toArray, List.set_cons_zero, List.set_cons_succ]
  have c1 := hHeld.row
  have c2 := hHeld.free
  have c3 := hHeld.cell
  have c4 := hHeld.lt
  have c5 := hHeld.froz
  refine wpAnyH_ready (rs := [5]) (by kernel_rfl) (by simp) ?_
  refine AllReadyH.cons (o := ({ dst := none, op := Go.Op.store 30 (Go.Operand.tmp 2) (Go.Operand.tmp 15), type := 0, pos := "frame.go:44", after := #[{ on := 0, ground := Go.Ground.data }, { on := 0, ground := Go.Ground.phase }, { on := 1, ground := Go.Ground.textOnly Go.Departure.lateStores }, { on := 2, ground := Go.Ground.textOnly Go.Departure.lateStores }, { on := 3, ground := Go.Ground.textOnly Go.Departure.lateStores }, { on := 4, ground := Go.Ground.textOnly Go.Departure.lateStores }], guard := none } : Oper)) rfl (fun K hK => ?_) AllReadyH.nil
  go_simp
  refine hK.out _ _ ?_ (fun hHeld => ?_)
  · (exact hHeld.set (by simp) _)
  clear hK K
  try simp only [Act.put, List.setIfInBounds_toArray, List.set_cons_zero, List.set_cons_succ]
  clear c1 c2 c3 c4 c5
  refine wpAnyH_take (i := 6) (oi := ({ dst := some 3, op := Go.Op.assign (Go.Operand.const (Go.Value.bool false)), type := 4, pos := "frame.go:44", after := #[{ on := 5, ground := Go.Ground.chain }, { on := 0, ground := Go.Ground.phase }, { on := 1, ground := Go.Ground.textOnly Go.Departure.lateStores }, { on := 2, ground := Go.Ground.textOnly Go.Departure.lateStores }, { on := 3, ground := Go.Ground.textOnly Go.Departure.lateStores }, { on := 4, ground := Go.Ground.textOnly Go.Departure.lateStores }, { on := 5, ground := Go.Ground.phase }], guard := none } : Oper)) (v := ?vv1_6) rfl (by kernel_rfl) (by kernel_rfl) (by kernel_rfl) (fun _ _ _ h => h) (Or.inl ⟨by rfl, ?hy1_6⟩) (by assumption) ?rest1_6
  case hy1_6 => (intro w hSw; (try dsimp only at hSw); (try go_split_ands); go_simp; all_goals with_reducible rfl)
  try simp only [Act.put, List.setIfInBounds_toArray, List.set_cons_zero, List.set_cons_succ]
  refine wpAnyH_take (i := 7) (oi := ({ dst := some 4, op := Go.Op.assign (Go.Operand.tmp 19), type := 31, pos := "frame.go:44", after := #[{ on := 4, ground := Go.Ground.data }, { on := 6, ground := Go.Ground.chain }, { on := 0, ground := Go.Ground.phase }, { on := 1, ground := Go.Ground.phase }, { on := 2, ground := Go.Ground.phase }, { on := 3, ground := Go.Ground.phase }, { on := 4, ground := Go.Ground.phase }, { on := 5, ground := Go.Ground.phase }, { on := 6, ground := Go.Ground.phase }], guard := none } : Oper)) (v := ?vv1_7) rfl (by kernel_rfl) (by kernel_rfl) (by kernel_rfl) (fun _ _ _ h => h) (Or.inl ⟨by rfl, ?hy1_7⟩) (by assumption) ?rest1_7
  case hy1_7 => (intro w hSw; (try dsimp only at hSw); (try go_split_ands); go_simp; all_goals with_reducible rfl)
  try simp only [Act.put, List.setIfInBounds_toArray, List.set_cons_zero, List.set_cons_succ]
  refine wpAnyH_done (by kernel_rfl) ?_ _
  have a1r := hHeld.row; have a1f := hHeld.free; have a1c := hHeld.cell; have a1l := hHeld.lt; have a1z := hHeld.froz
  go_wp2_with fail
  refine ret_pk3 2 3 4 w.heap.size zPk none 0 0 (.bool false) (.int .i64 f) rfl rfl (by go_simp <;> rfl) rfl rfl rfl ?_
  exact ⟨nex_no, hHeld.below⟩
set_option maxHeartbeats 2000000 in
theorem frNextO (h : Fr B w g o m b 0) (hG : ∀ w', Below w.heap.size w w' → Glo w') (hb : b.length ≤ 900000000) (P : Pk) (X : List (List UInt8 × Int)) (N : Nat) (hD : dcR m b = (P, X, (N : Int), 0)) (hN : N ≤ b.length) (r : Bool) (hr : decide (0 < N) = r) :
    Calls Tryd.prog 8 #[.pointer (some ⟨g, 0, none⟩)] w fun e w' => NEX w P X r 0 e w' ∧ ∃ o', Fr B w' g o' m (b.drop N) 0 ∧ Fd w w' g o ∧ NewO w o o' := by
  have hrI : decide ((0 : Int) < (N : Int)) = r := by rw [← hr, decide_eq_decide]; omega
  have H := Lib.hid h
  have HG := Lib.hid hG
  have hK0 := (Kp.nil w).new (PkC zPk none 0 0) 30
  have HD := Lib.hid hD
  have HR := Lib.hid hrI
  have HRN := Lib.hid hr
  obtain ⟨A, n, c, k, L, hS, _⟩ := h
  have HS := Lib.hid hS
  clear hS hr hG hD hrI
  go_enter Tryd.func8, Tryd.ntmps8
  go_wp2_with fail
  refine (frMade (HS.out.below hK0.below)).mono ?_
  rintro e w1 ⟨rfl, rfl⟩
  obtain ⟨w2, hw2⟩ : ∃ w2, w2 = w.alloc (.cells (PkC zPk none 0 0) 30) := ⟨_, rfl⟩
  rw [← hw2] at hK0 ⊢
  clear hw2
  obtain ⟨b1, b2, b3, b4, b5⟩ := blk_row (HS.out.below hK0.below).heap
  go_wp2_with fail
  refine (frDecode' (H.out.below hK0.below) (fun w' h9 => HG.out _ (below_more hK0.below h9)) hb P X N 0 HD.out).mono ?_
  clear b1 b2 b3 b4 b5
  rintro e w3 ⟨A2, c2, rfl, hb3, hS2, hc2, hst2⟩
  have hK3 := hK0.more hb3
  have hgp := (hK3.rows (w.heap.size, PkC zPk none 0 0, 30) (by simp)).2
  dsimp only at hgp
  have hKS := keepS_set (cs' := PkC P A2 X.length c2) hgp (by decide)
  have hH3 := H.out.below hK3.below
  have HF := Lib.hid (hH3.setP (cs' := PkC P A2 X.length c2) hgp (by decide) (by decide))
  have HFD := Lib.hid ((Fd.of_below (g := g) (o := o) hK3.below).set2 (Nat.le_refl _) (PkC P A2 X.length c2))
  have HSU := Lib.hid (subs_keep hS2 hst2 hKS)
  have HST := Lib.hid (subT_keep hst2 hKS)
  have HCC := Lib.hid hc2
  have hgp2 := setRow_heap w3 w.heap.size _ (PkC P A2 X.length c2) _ _ hgp
  have hgs : w.heap.size < (w3.setRow w.heap.size (PkC P A2 X.length c2)).heap.size := (Array.getElem?_eq_some_iff.1 hgp2).1
  obtain ⟨d1, d2, d3, d4, d5⟩ := blk_row hgp
  clear hS2 hst2 hc2 hKS hb3 hK3 hH3 hK0 HS hgp
  go_wp2_with fail
  obtain ⟨w4, hw4⟩ : ∃ w4, w4 = w3.setRow w.heap.size (PkC P A2 X.length c2) := ⟨_, rfl⟩
  rw [← hw4] at HF HFD HSU HST hgp2 hgs ⊢
  clear hw4 d1 d2 d3 d4 d5
  refine (frDrop HF.out N hN hb).mono ?_
  rintro e w5 ⟨rfl, o', hF5, hd5, hn5⟩
  have hKS := HF.out.keepS hd5
  have hgp5 := HF.out.other hd5 hgp2 (by decide) (by decide)
  have HF5 := Lib.hid (hF5.setP (cs' := PkC P A2 X.length c2) hgp5 (by decide) (by decide))
  have hfd5 := HFD.out.trans hd5 (NewO.refl _ _)
  have HFD5 := Lib.hid (hfd5.set2 (Nat.le_refl _) (PkC P A2 X.length c2))
  have HN5 : Hid (NewO w o o') := (NewO.refl w o).trans HFD.out.size hn5
  have hKS2 := keepS_set (cs' := PkC P A2 X.length c2) hgp5 (by decide)
  replace HSU := Lib.hid (subs_keep (subs_keep HSU.out HST.out hKS) (subT_keep HST.out hKS) hKS2)
  replace HST := Lib.hid (subT_keep (subT_keep HST.out hKS) hKS2)
  obtain ⟨d1, d2, d3, d4, d5⟩ := blk_row hgp5
  have hrr := HR.out
  have hrn := HRN.out
  clear hKS hKS2 hgp2 hgs hgp5 hF5 hd5 hn5 hfd5 HF HFD
  go_wp2_with fail
  refine ret_pk3 2 3 4 w.heap.size P A2 X.length c2 (.bool r) (.int .i64 0) rfl rfl (by go_simp <;> rfl) rfl rfl rfl ?_
  exact ⟨⟨A2, c2, rfl, HSU.out, HCC.out, HST.out⟩, o', HF5.out, HFD5.out, HN5.out⟩
set_option maxHeartbeats 2000000 in
theorem frNextB (h : Fr B w g o m b 0) (hG : ∀ w', Below w.heap.size w w' → Glo w') (hb : b.length ≤ 900000000) (E : Int) (hD : dcR m b = (zPk, [], 0, E)) (hE : E ≠ 0) :
    Calls Tryd.prog 8 #[.pointer (some ⟨g, 0, none⟩)] w fun e w' => NEX w zPk [] false E e w' ∧ ∃ o', Fr B w' g o' m [] E ∧ Fd w w' g o ∧ NewO w o o' := by
  have hEb : (E != 0) = true := by simpa using hE
  have H := Lib.hid h
  have HG := Lib.hid hG
  have hK0 := (Kp.nil w).new (PkC zPk none 0 0) 30
  have HD := Lib.hid hD
  obtain ⟨A, n, c, k, L, hS, _⟩ := h
  have HS := Lib.hid hS
  clear hS hG hD hE
  go_enter Tryd.func8, Tryd.ntmps8
  go_wp2_with fail
  refine (frMade (HS.out.below hK0.below)).mono ?_
  rintro e w1 ⟨rfl, rfl⟩
  obtain ⟨w2, hw2⟩ : ∃ w2, w2 = w.alloc (.cells (PkC zPk none 0 0) 30) := ⟨_, rfl⟩
  rw [← hw2] at hK0 ⊢
  clear hw2
  obtain ⟨b1, b2, b3, b4, b5⟩ := blk_row (HS.out.below hK0.below).heap
  go_wp2_with fail
  refine (frDecode' (H.out.below hK0.below) (fun w' h9 => HG.out _ (below_more hK0.below h9)) hb zPk [] 0 E HD.out).mono ?_
  clear b1 b2 b3 b4 b5 HS
  rintro e w3 ⟨A2, c2, rfl, hb3, _, _, _⟩
  have hK3 := hK0.more hb3
  have hgp := (hK3.rows (w.heap.size, PkC zPk none 0 0, 30) (by simp)).2
  dsimp only at hgp
  have hH3 := H.out.below hK3.below
  have hF4 := hH3.setP (cs' := PkC zPk A2 0 c2) hgp (by decide) (by decide)
  have hfd4 := (Fd.of_below (g := g) (o := o) hK3.below).set2 (Nat.le_refl _) (PkC zPk A2 0 c2)
  have hgp2 := setRow_heap w3 w.heap.size _ (PkC zPk A2 0 c2) _ _ hgp
  have hgl : g < w.heap.size := H.out.lt
  obtain ⟨A, n, c, k, L, hS4, hF5⟩ := hF4.setF E
  obtain ⟨b1, b2, b3, b4, b5⟩ := blk_row hS4.heap
  have hgp3 := (setRow_other (w3.setRow w.heap.size (PkC zPk A2 0 c2)) g w.heap.size (FrC m A n c k E) (by omega)).trans hgp2
  have hfd5 := hfd4.set (FrC m A n c k E)
  have HF := Lib.hid hF5
  have HFD := Lib.hid hfd5
  have HGP := Lib.hid hgp3
  obtain ⟨d1, d2, d3, d4, d5⟩ := blk_row hgp
  have hne : ¬ w.heap.size = g := by omega
  have hne2 : ¬ g = w.heap.size := by omega
  clear hb3 hK3 hH3 hK0 hF4 hfd4 hS4 hF5 hgp3 hfd5 hgp2
  go_wp2_with fail
  obtain ⟨w4, hw4⟩ : ∃ w4, w4 = (w3.setRow w.heap.size (PkC zPk A2 0 c2)).setRow g (FrC m A n c k E) := ⟨_, rfl⟩
  rw [← hw4] at HF HFD HGP ⊢
  clear hw4 d1 d2 d3 d4 d5 b1 b2 b3 b4 b5
  refine (frLeft' HF.out hb).mono ?_
  rintro e w5 ⟨rfl, hb5⟩
  have HGP5 := Lib.hid ((hb5.block _ (Array.getElem?_eq_some_iff.1 HGP.out).1).trans HGP.out)
  replace HF := Lib.hid (HF.out.below hb5)
  replace HFD := Lib.hid (HFD.out.more hb5)
  clear hb5 HGP
  go_wp2_with fail
  refine (frDrop HF.out b.length (Nat.le_refl _) hb).mono ?_
  rintro e w6 ⟨rfl, o', hF6, hd6, hn6⟩
  rw [List.drop_length] at hF6
  have hgp6 := HF.out.other hd6 HGP5.out (by decide) (by decide)
  have HF6 := Lib.hid (hF6.setP (cs' := PkC zPk none 0 0) hgp6 (by decide) (by decide))
  have hfd6 := HFD.out.trans hd6 (NewO.refl _ _)
  have HFD6 := Lib.hid (hfd6.set2 (Nat.le_refl _) (PkC zPk none 0 0))
  have HN6 : Hid (NewO w o o') := (NewO.refl w o).trans HFD.out.size hn6
  obtain ⟨d1, d2, d3, d4, d5⟩ := blk_row hgp6
  clear hgp6 hF6 hd6 hn6 hfd6 HF HFD HGP5
  go_wp2_with fail
  refine ret_pk3 2 3 4 w.heap.size zPk none 0 0 (.bool false) (.int .i64 E) rfl rfl (by go_simp <;> rfl) rfl rfl rfl ?_
  exact ⟨nex_no, o', HF6.out, HFD6.out, HN6.out⟩
end
end Go.Proofs.YtncgkkhpcgdcaaaDoor
