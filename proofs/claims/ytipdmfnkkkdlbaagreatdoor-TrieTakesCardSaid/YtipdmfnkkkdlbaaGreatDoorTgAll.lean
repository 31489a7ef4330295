/-
  trie: All, Of.
-/
import Derived.Test.YtipdmfnkkkdlbaaGreatDoorTgSort
import Derived.Test.YtipdmfnkkkdlbaaGreatDoorTgWalk2
import Derived.Test.YtipdmfnkkkdlbaaGreatDoorTgAdd2
set_option linter.unusedSimpArgs false
set_option linter.unusedVariables false
namespace Go.Proofs.YtipdmfnkkkdlbaaGreatDoor
open Go.RowKit Go.Maps Go.Shelf
open Go.Sort (HoldsK putRowK)

/-- Hints, texts that are told in memory of their own. -/
def OHP (w : World) (M : List Hn) (e : Ending) (w' : World) : Prop := ∃ v, e = .returned v ∧ OwnH w.heap.size w w' v M
def OSP (w : World) (M : List (List UInt8)) (e : Ending) (w' : World) : Prop := ∃ v, e = .returned v ∧ OwnS 9 w.heap.size w w' v M
section
variable {w w' : World} {t : Nat} {G : TG} {ps : List Pth} {L : List Hn}
theorem PTG.dep (hP : PTG w t G ps L) (hLl : ∀ x ∈ L, x.1.length ≤ 300) : ∀ q, G.bl 0 q ≠ none → q.length ≤ 1000 ∧ ∀ x ∈ q, x.length ≤ 1000 := by
  intro q hq
  by_cases h0 : q = []
  · subst h0; exact ⟨by simp, fun x hx => by cases hx⟩
  · obtain ⟨x, hx, hpre⟩ := hP.2.2.2.1 q ((hP.2.1.2 q).2 ⟨h0, hq⟩)
    have h1 := hLl x hx
    have h2 := levs_len x.1
    exact ⟨by have := hpre.length_le; omega, fun y hy => by have := levs_bd x.1 y (hpre.subset hy); omega⟩
theorem PTG.jl (hP : PTG w t G ps L) (hLl : ∀ x ∈ L, x.1.length ≤ 300) : ∀ p c, G.cl p c → (joinL p).length ≤ 1000 := by
  intro p c hc
  obtain ⟨x, hx, rfl, _⟩ := (hP.2.2.1 p c).1 hc
  rw [join_levs]
  have := hLl x hx
  omega
theorem PTG.ownA_iff (hP : PTG w t G ps L) (p : Pth) (y : Hn) : ownA G p y ↔ y ∈ L ∧ p = levs y.1 := by
  unfold ownA
  rw [hP.2.2.1]
  constructor
  · rintro ⟨⟨x, hx, rfl, e2⟩, e3⟩
    rw [join_levs] at e3
    obtain rfl : y = x := Prod.ext e3 e2.symm
    exact ⟨hx, rfl⟩
  · rintro ⟨hy, rfl⟩
    exact ⟨⟨y, hy, rfl, rfl⟩, (join_levs _).symm⟩
theorem PTG.allA (hP : PTG w t G ps L) (y : Hn) : UnP G (ownA G) [] y ↔ y ∈ L := by
  unfold UnP
  constructor
  · rintro ⟨q, _, h⟩
    exact ((hP.ownA_iff _ _).1 h).1
  · intro hy
    refine ⟨levs y.1, ?_, (hP.ownA_iff _ _).2 ⟨hy, rfl⟩⟩
    exact hP.node hy (List.prefix_refl _)
theorem PTG.ownO_iff (hP : PTG w t G ps L) (c : List UInt8) (p : Pth) (y : List UInt8) : ownO G c p y ↔ (y, c) ∈ L ∧ p = levs y := by
  unfold ownO
  rw [hP.2.2.1]
  constructor
  · rintro ⟨⟨⟨a, b⟩, hx, e1, e2⟩, e3⟩
    dsimp only at e1 e2
    subst e1 e2
    rw [join_levs] at e3
    subst e3
    exact ⟨hx, rfl⟩
  · rintro ⟨hy, rfl⟩
    exact ⟨⟨(y, c), hy, rfl, rfl⟩, (join_levs _).symm⟩
theorem of_mem (L : List Hn) (c y : List UInt8) : y ∈ ofL L c ↔ (y, c) ∈ L := by
  unfold ofL
  rw [List.mem_map]
  constructor
  · rintro ⟨⟨a, b⟩, hx, rfl⟩
    rw [List.mem_filter, beq_iff_eq] at hx
    obtain ⟨h1, h2⟩ := hx
    dsimp only at h2
    subst h2
    exact h1
  · intro h
    exact ⟨(y, c), List.mem_filter.2 ⟨h, by simp⟩, rfl⟩
theorem of_srt (hS : Srt ahB L) (c : List UInt8) : Srt ltB (ofL L c) := by
  unfold ofL
  have h1 := srt_filter (fun x : Hn => x.2 == c) L hS
  refine List.pairwise_map.2 (h1.imp_of_mem ?_)
  intro a b ha hb hab
  rw [List.mem_filter, beq_iff_eq] at ha hb
  unfold ahB at hab
  rw [ha.2, hb.2, lt_ord.irr] at hab
  simpa using hab
theorem PTG.allO (hP : PTG w t G ps L) (c y : List UInt8) : UnP G (ownO G c) [] y ↔ y ∈ ofL L c := by
  unfold UnP
  rw [of_mem]
  constructor
  · rintro ⟨q, _, h⟩
    exact ((hP.ownO_iff _ _ _).1 h).1
  · intro hy
    exact ⟨levs y, hP.node hy (List.prefix_refl _), (hP.ownO_iff _ _ _).2 ⟨hy, rfl⟩⟩
theorem cmp_lays (blk off n : Nat) (w : World) : CmpLays Tryz.prog 36 #[] htV 2 cfH blk off n w := fun _ _ _ _ x y => compare_eq x y _
set_option maxHeartbeats 1000000 in
/-- The sort by compare, at whatever row. -/
theorem sortF_eq {B : Nat} {v : Value} {X : List Hn} (h : w.ownsRow B 40 2 v X.length (flatH X)) (hl : X.length ≤ 1000000) (hn : X.Nodup) (hS : Srt ahB L) (hm : ∀ y, y ∈ X ↔ y ∈ L) :
    Calls Tryz.prog 35 #[v, .func (.func 36) #[] #[]] w fun e w' => e = .returned (.tuple #[]) ∧ w'.ownsRow B 40 2 v L.length (flatH L) ∧ w.grownBy w' v.ownBlock := by
  have hXL := hsort_eq hn hS hm
  have hlen : X.length = L.length := by rw [← hXL, List.length_mergeSort]
  have h0 := h
  rcases h.2 with ⟨rfl, hz⟩ | ⟨g, cap, cur, rfl, hB, hg, hc, hcm, hcs, htk⟩
  · have hX : X = [] := List.eq_nil_of_length_eq_zero hz
    subst hX
    have hL0 : L = [] := List.eq_nil_of_length_eq_zero hlen.symm
    subst hL0
    refine (AnyF.slices_SortFunc_none { Tryz.sortF35 with } none 0 (.func (.func 36) #[] #[]) w).mono ?_
    rintro e w' ⟨he, hw⟩
    subst hw
    exact ⟨he, h0, World.grownBy.refl _ _⟩
  · have hH : HoldsK htV 2 w g 0 X.toArray := by
      unfold HoldsK
      rw [flat_eq]
      intro j hj
      have hj' : j < (flatH X).length := by simpa using hj
      refine ⟨?_, by simp [World.frozen?, hg]⟩
      have := World.ownsRow.cells h (g := g) rfl j _ (List.getElem?_eq_getElem hj')
      have hadd : (⟨g, 0, none⟩ : Addr).add j = ⟨g, 0 + j, none⟩ := by unfold Addr.add; split <;> simp_all
      rw [hadd] at this
      rw [this]
      simp [hj']
    have hcon := AnyQ.slices_SortFunc_total { Tryz.sortF35 with } 2 Tryz.isAgg40 Tryz.sizeOf40 htV (fun _ => rfl) (fun x v hv => by simp [htV] at hv; rcases hv with rfl | rfl <;> rfl) cfH cfH_swo 36 #[] g 0 cap X.toArray w
      (enters_of Tryz.func36 (by kernel_rfl) rfl) (cmp_lays g 0 X.toArray.size w) hH (Array.getElem?_eq_some_iff.1 hg).1 (by simp; omega) (fun x y h1 h2 => by
        rw [cfH_lt] at h1 h2
        by_cases e : x = y
        · exact e
        · have := ah_ord.tot x y e h1; rw [h2] at this; cases this)
    change Calls Tryz.prog 35 _ _ _ at hcon
    refine Calls.mono (R := fun e w' => e = .returned (.tuple #[]) ∧ ∃ n os, w' = sortWorldK htV 2 w g 0 n (X.mergeSort (fun x y => !ltOf cfH y x)).toArray os) (by simpa using hcon) ?_
    rintro e w' ⟨rfl, n, os, rfl⟩
    rw [hXL]
    unfold sortWorldK putRowK
    rw [flat_eq]
    obtain ⟨r1, r2⟩ := row_put h0 (flatH L) (by rw [flatH_len, flatH_len, hlen]) n os
    refine ⟨rfl, ?_, r2⟩
    rw [← hlen]
    exact r1
set_option maxHeartbeats 1000000 in
/-- The sort of texts, at whatever row. -/
theorem sortS_eq {B : Nat} {v : Value} {X M : List (List UInt8)} (h : LevS B w v X) (hl : X.length ≤ 1000000) (hn : X.Nodup) (hS : Srt ltB M) (hm : ∀ y, y ∈ X ↔ y ∈ M) :
    Calls Tryz.prog 39 #[v] w fun e w' => e = .returned (.tuple #[]) ∧ LevS B w' v M ∧ w.grownBy w' v.ownBlock := by
  have hXM : X.mergeSort leB = M := srt_ext lt_ord _ _ (sort_srt hn) hS (fun y => by rw [sort_mem, hm])
  have hlen : M.length = X.length := by rw [← hXM, sort_len]
  have h0 := h
  rcases h.2 with ⟨rfl, hz⟩ | ⟨g, cap, cur, rfl, hB, hg, hc, hcm, hcs, htk⟩
  · have hX : X = [] := List.eq_nil_of_length_eq_zero hz
    subst hX
    have hM0 : M = [] := List.eq_nil_of_length_eq_zero hlen
    subst hM0
    refine (Tryz.slices_Sort_string_none none 0 w).mono ?_
    rintro e w' ⟨he, hw⟩
    subst hw
    exact ⟨he, h0, World.grownBy.refl _ _⟩
  · refine (Tryz.slices_Sort_string g 0 cap X w (holds_of_block hg (by rw [Nat.mul_one] at htk; exact htk)) (Array.getElem?_eq_some_iff.1 hg).1 (by omega)).mono ?_
    rintro e w' ⟨rfl, n, os, rfl⟩
    rw [show (X.mergeSort fun x y => decide (x ≤ y)) = M from hXM]
    refine ⟨rfl, ?_, grownBy_sorted _⟩
    unfold LevS
    rw [hlen]
    exact ownsRow_sorted hlen hB hg hc hcm hcs
set_option maxHeartbeats 2000000 in
set_option maxRecDepth 100000 in
theorem gAll_any (hP : PTG w t G ps L) (hS : Srt ahB L) (hL : L.length ≤ 100) (hLl : ∀ x ∈ L, x.1.length ≤ 300) :
    Calls Tryz.prog 14 #[.pointer (some ⟨t, 0, none⟩)] w fun e w' => OHP w L e w' := by
  have HP := Lib.hid hP
  obtain ⟨W, hW⟩ : ∃ W, W = w.alloc (.cells #[.slice none 0 0] 28) := ⟨_, rfl⟩
  have hbW : Below w.heap.size w W := by rw [hW]; exact below_alloc (Below.refl _ _) _
  have hA : AccA w.heap.size w.heap.size W [] (fun x => x = w.heap.size) :=
    ⟨_, by rw [hW, World.cell?_alloc_new]; rfl, by rw [hW, World.frozen?_alloc_at _ _ _ _ rfl], World.ownsRow_nil _ _ _ _, by rw [ownBlock_nil]; simp, fun x => by rw [ownBlock_nil]; simp⟩
  have HA := Lib.hid hA
  have HBW := Lib.hid hbW
  have HTW := Lib.hid (hP.1.below hbW)
  have HRF : Hid (∀ x, x = w.heap.size → ¬ G.F x) := fun x hx hf => by have := hP.1.lt x hf; omega
  have hsW : W.heap.size = w.heap.size + 1 := by rw [hW]; simp
  have HSW := Lib.hid hsW
  clear hP hA hbW hsW
  go_enter Tryz.func14, Tryz.ntmps14
  go_wp2_with fail
  rw [← hW]
  clear hW
  refine (walkAll_any (AccA w.heap.size w.heap.size) (accA_ok _ _) (ownA G) (fun p q y h1 h2 => by rw [((HP.out.ownA_iff _ _).1 h1).2, ((HP.out.ownA_iff _ _).1 h2).2]) L w.heap.size (fun p y h => ((HP.out.ownA_iff _ _).1 h).1) (HP.out.dep hLl)
    (fun B => visA B _ _ (Nat.le_refl _) L (by omega) (fun p y h => ((HP.out.ownA_iff _ _).1 h).1) (HP.out.jl hLl)) HTW.out _ HA.out HRF.out).mono ?_
  rintro e w6 ⟨X, R, rfl, hA6, hG6, hU6, hR6⟩
  obtain ⟨v, q1, q2, q3, q4, q5⟩ := hA6
  have hmem : ∀ y, y ∈ X ↔ y ∈ L := fun y => by rw [hG6.2]; exact HP.out.allA y
  have hlen : X.length ≤ 1000 := Nat.le_trans (sub_len X L hG6.1 (fun y hy => (hmem y).1 hy)) (by omega)
  have hb6 : Below w.heap.size w w6 := HBW.out.trans (hU6.below (fun b _ e => by omega) (by have := HSW.out; omega))
  have hltp := World.block_lt_of_cell? _ _ q1
  obtain ⟨A, c, rfl, _⟩ := row_shape q3
  have HQ3 := Lib.hid q3
  have HG6 := Lib.hid hG6
  have HM := Lib.hid hmem
  have HB6 := Lib.hid hb6
  clear q3 hG6 hmem hb6 hU6 hR6 q5
  go_wp2_with fail
  refine (sortF_eq HQ3.out (by omega) HG6.out.1 hS HM.out).mono ?_
  rintro e w8 ⟨rfl, r1, r2⟩
  have q18 := (World.cell?_of_block (r2.block w.heap.size hltp (fun e => q4 e.symm))).trans q1
  have HR1 := Lib.hid r1
  have HR2 := Lib.hid r2
  clear r1 r2
  go_wp2_with fail
  go_ret
  refine ⟨_, rfl, HR1.out, HB6.out.grown HR2.out HB6.out.size (fun k hk => (World.ownsRow.lt HQ3.out k hk).1), Nat.le_trans HB6.out.size HR2.out.size⟩
set_option maxHeartbeats 2000000 in
set_option maxRecDepth 100000 in
theorem gOf_any (hP : PTG w t G ps L) (hS : Srt ahB L) (hL : L.length ≤ 100) (hLl : ∀ x ∈ L, x.1.length ≤ 300) (c0 : List UInt8) (M : List (List UInt8)) (hc0 : c0.length ≤ 300) (hM : ofL L c0 = M) :
    Calls Tryz.prog 15 #[.pointer (some ⟨t, 0, none⟩), .string ⟨c0.toArray⟩] w fun e w' => OSP w M e w' := by
  have HP := Lib.hid hP
  obtain ⟨W, hW⟩ : ∃ W, W = (w.alloc (.cells #[.string ⟨c0.toArray⟩] 9)).alloc (.cells #[.slice none 0 0] 36) := ⟨_, rfl⟩
  have hbW : Below w.heap.size w W := by rw [hW]; exact below_alloc (below_alloc (Below.refl _ _) _) _
  have hA : AccO w.heap.size w.heap.size (w.heap.size + 1) c0 W [] (fun x => x = w.heap.size ∨ x = w.heap.size + 1) :=
    ⟨.slice none 0 0, by rw [hW]; go_simp, by rw [hW]; go_simp, by rw [hW]; go_simp, LevS.nil _ _, by rw [ownBlock_nil]; simp, by rw [ownBlock_nil]; simp, by omega, fun x => by rw [ownBlock_nil]; simp⟩
  have HA := Lib.hid hA
  have HBW := Lib.hid hbW
  have HTW := Lib.hid (hP.1.below hbW)
  have HRF : Hid (∀ x, (x = w.heap.size ∨ x = w.heap.size + 1) → ¬ G.F x) := fun x hx hf => by have := hP.1.lt x hf; omega
  have hsW : W.heap.size = w.heap.size + 2 := by rw [hW]; simp
  have HSW := Lib.hid hsW
  have hoz : ∀ p y, ownO G c0 p y → y ∈ M := fun p y h => by rw [← hM, of_mem]; exact ((hP.ownO_iff _ _ _).1 h).1
  have HOZ := Lib.hid hoz
  have hMl : M.length ≤ 100 := by rw [← hM]; unfold ofL; rw [List.length_map]; exact Nat.le_trans (List.length_filter_le _ _) hL
  have hMS : Srt ltB M := by rw [← hM]; exact of_srt hS c0
  have HMS := Lib.hid hMS
  have HMM : Hid (∀ y, UnP G (ownO G c0) [] y ↔ y ∈ M) := fun y => by rw [← hM, hP.allO]
  clear hP hA hbW hsW hoz hMS hM
  go_enter Tryz.func15, Tryz.ntmps15
  go_wp2_with fail
  rw [← hW]
  clear hW
  refine (walkOf_any (AccO w.heap.size w.heap.size (w.heap.size + 1) c0) (accO_ok _ _ _ _) (ownO G c0) (fun p q y h1 h2 => by rw [((HP.out.ownO_iff _ _ _).1 h1).2, ((HP.out.ownO_iff _ _ _).1 h2).2]) M w.heap.size (w.heap.size + 1) HOZ.out (HP.out.dep hLl)
    (fun B => visO B _ _ _ c0 (by omega) (by omega) M (by omega) (HP.out.jl hLl)) HTW.out _ HA.out HRF.out).mono ?_
  rintro e w6 ⟨X, R, rfl, hA6, hG6, hU6, hR6⟩
  obtain ⟨v, q0, q1, q2, q3, q4, q6, q7, q5⟩ := hA6
  have hmem : ∀ y, y ∈ X ↔ y ∈ M := fun y => by rw [hG6.2]; exact HMM.out y
  have hlen : X.length ≤ 1000 := Nat.le_trans (sub_len X M hG6.1 (fun y hy => (hmem y).1 hy)) (by omega)
  have hb6 : Below w.heap.size w w6 := HBW.out.trans (hU6.below (fun b _ e => by omega) (by have := HSW.out; omega))
  have hltp := World.block_lt_of_cell? _ _ q1
  obtain ⟨A, c, rfl, _⟩ := row_shape q3
  have HQ3 := Lib.hid q3
  have HG6 := Lib.hid hG6
  have HM := Lib.hid hmem
  have HB6 := Lib.hid hb6
  clear q3 hG6 hmem hb6 hU6 hR6 q5
  go_wp2_with fail
  refine (sortS_eq HQ3.out (by omega) HG6.out.1 HMS.out HM.out).mono ?_
  rintro e w8 ⟨rfl, r1, r2⟩
  have q18 := (World.cell?_of_block (r2.block (w.heap.size + 1) hltp (fun e => q4 e.symm))).trans q1
  have HR1 := Lib.hid r1
  have HR2 := Lib.hid r2
  clear r1 r2
  go_wp2_with fail
  go_ret
  refine ⟨_, rfl, HR1.out, HB6.out.grown HR2.out HB6.out.size (fun k hk => (HQ3.out.lt k hk).1), Nat.le_trans HB6.out.size HR2.out.size⟩
set_option maxHeartbeats 1000000 in
theorem allN_eq (w : World) : Calls Tryz.prog 14 #[.pointer none] w fun e w' => OHP w [] e w' := by
  have hbW : Below w.heap.size w (w.alloc (.cells #[.slice none 0 0] 28)) := below_alloc (Below.refl _ _) _
  have HBW := Lib.hid hbW
  clear hbW
  go_enter Tryz.func14, Tryz.ntmps14
  go_wp2_with fail
  refine (walkNAll _ w.heap.size).mono ?_
  rintro e w6 ⟨rfl, hb6⟩
  have q1 : w6.cell? ⟨w.heap.size, 0, none⟩ = some (.slice none 0 0) := (hb6.cell (by simp)).trans (by rw [World.cell?_alloc_new]; rfl)
  have hb7 := below_more HBW.out hb6
  have HB7 := Lib.hid hb7
  clear hb6 hb7
  go_wp2_with fail
  refine (sortF_eq (w := w6) (B := w.heap.size) (X := []) (L := []) (World.ownsRow_nil _ _ _ _) (by simp) List.nodup_nil List.Pairwise.nil (fun y => Iff.rfl)).mono ?_
  rintro e w8 ⟨rfl, r1, r2⟩
  have q18 := (World.cell?_of_block (r2.block w.heap.size (World.block_lt_of_cell? _ _ q1) (by rw [ownBlock_nil]; simp))).trans q1
  have HR1 := Lib.hid r1
  have HR2 := Lib.hid r2
  clear r1 r2
  go_wp2_with fail
  go_ret
  exact ⟨_, rfl, HR1.out, HB7.out.grown HR2.out HB7.out.size (fun k hk => by rw [ownBlock_nil] at hk; cases hk), Nat.le_trans HB7.out.size HR2.out.size⟩
set_option maxHeartbeats 1000000 in
theorem ofN_eq (w : World) (c0 : List UInt8) : Calls Tryz.prog 15 #[.pointer none, .string ⟨c0.toArray⟩] w fun e w' => OSP w [] e w' := by
  obtain ⟨W, hW⟩ : ∃ W, W = (w.alloc (.cells #[.string ⟨c0.toArray⟩] 9)).alloc (.cells #[.slice none 0 0] 36) := ⟨_, rfl⟩
  have hbW : Below w.heap.size w W := by rw [hW]; exact below_alloc (below_alloc (Below.refl _ _) _) _
  have q0 : W.cell? ⟨w.heap.size + 1, 0, none⟩ = some (.slice none 0 0) := by rw [hW]; go_simp
  have HBW := Lib.hid hbW
  clear hbW
  go_enter Tryz.func15, Tryz.ntmps15
  go_wp2_with fail
  rw [← hW]
  clear hW
  refine (walkNOf _ w.heap.size (w.heap.size + 1)).mono ?_
  rintro e w6 ⟨rfl, hb6⟩
  have q1 : w6.cell? ⟨w.heap.size + 1, 0, none⟩ = some (.slice none 0 0) := (hb6.cell (World.block_lt_of_cell? _ _ q0)).trans q0
  have hb7 := below_more HBW.out hb6
  have HB7 := Lib.hid hb7
  clear hb6 hb7 q0
  go_wp2_with fail
  refine (sortS_eq (w := w6) (B := w.heap.size) (X := []) (M := []) (LevS.nil _ _) (by simp) List.nodup_nil List.Pairwise.nil (fun y => Iff.rfl)).mono ?_
  rintro e w8 ⟨rfl, r1, r2⟩
  have q18 := (World.cell?_of_block (r2.block (w.heap.size + 1) (World.block_lt_of_cell? _ _ q1) (by rw [ownBlock_nil]; simp))).trans q1
  have HR1 := Lib.hid r1
  have HR2 := Lib.hid r2
  clear r1 r2
  go_wp2_with fail
  go_ret
  exact ⟨_, rfl, HR1.out, HB7.out.grown HR2.out HB7.out.size (fun k hk => by rw [ownBlock_nil] at hk; cases hk), Nat.le_trans HB7.out.size HR2.out.size⟩
end
end Go.Proofs.YtipdmfnkkkdlbaaGreatDoor
