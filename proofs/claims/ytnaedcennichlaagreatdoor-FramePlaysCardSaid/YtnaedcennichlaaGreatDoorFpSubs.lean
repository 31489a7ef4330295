/-
  The document's own guess at a packet with Subs.
-/
import Derived.Test.YtnaedcennichlaaGreatDoorFpGuess2
set_option linter.unusedSimpArgs false
set_option linter.unusedVariables false
namespace Go.Proofs.YtnaedcennichlaaGreatDoor
open Go.RowKit
set_option maxRecDepth 100000
/-- What is left behind a Sub. -/
def guL (t : Int) (l : List UInt8) : List UInt8 := if t = 8 then (gdL l).tail else gdL l
def guX (t : Int) (l : List UInt8) : List UInt8 × Int := (gdV l, if t = 8 then byV (gdL l) else 0)
def guS (t : Int) (l : List UInt8) : List (List UInt8 × Int) :=
  if l = [] then [] else if h : (guL t l).length < l.length then guX t l :: guS t (guL t l) else [guX t l]
termination_by l.length
theorem guS_nil (t : Int) : guS t [] = [] := by rw [guS]; rfl
theorem guS_go (t : Int) (l : List UInt8) (h : l ≠ []) : guS t l = guX t l :: (if (guL t l).length < l.length then guS t (guL t l) else []) := by
  rw [guS, if_neg h]
  split <;> rfl
theorem guL_le (t : Int) (l : List UInt8) : (guL t l).length ≤ l.length := by
  have := gdL_le l
  unfold guL
  split
  · rw [List.length_tail]; omega
  · exact this
/-- How much is left of the fields. -/
def leftG (w : World) (g : Nat) : Nat := match ((rowAt w g)[0]? : Option Value) with
  | some (.string s) => s.size
  | _ => 0
theorem leftG_of {w : World} {g : Nat} {l : List UInt8} (h : rowAt w g = FlC l) : leftG w g = l.length := by
  unfold leftG
  rw [h, FlC_0]
  show l.toArray.size = l.length
  simp
def ticks (a u : Nat) : Nat := if a < u then a + 1 else 0
theorem ticks_go {a b u : Nat} (h : a < u) (hb : b ≤ a) : ticks b a < ticks a u := by
  unfold ticks
  rw [if_pos h]
  split <;> omega
theorem gneM {g : Nat} {M : List (Nat × Array Value × TypeId)} (P : Pk) (A : Option Addr) (n c : Nat) (h : ∀ x ∈ M, x.1 ≠ g + 1 ∧ x.1 ≠ g + 1 + 1) : ∀ x ∈ ((g + 1 + 1, PkC P A n c, (36 : TypeId)) :: (M ++ [(g, PkC zPk none 0 0, (36 : TypeId))])), x.1 ≠ g + 1 := by
  intro x hx
  simp only [List.mem_cons, List.mem_append, List.mem_nil_iff, or_false] at hx
  rcases hx with rfl | hx | rfl
  · dsimp only; omega
  · exact (h x hx).1
  · dsimp only; omega
theorem gneN {g : Nat} {M : List (Nat × Array Value × TypeId)} (l : List UInt8) (h : ∀ x ∈ M, x.1 ≠ g + 1 ∧ x.1 ≠ g + 1 + 1) : ∀ x ∈ ((g + 1, FlC l, (82 : TypeId)) :: (M ++ [(g, PkC zPk none 0 0, (36 : TypeId))])), x.1 ≠ g + 1 + 1 := by
  intro x hx
  simp only [List.mem_cons, List.mem_append, List.mem_nil_iff, or_false] at hx
  rcases hx with rfl | hx | rfl
  · dsimp only; omega
  · exact (h x hx).2
  · dsimp only; omega
/-- The blocks, the own row's among them. -/
def gM (g : Nat) (l : List UInt8) (P : Pk) (A : Option Addr) (n c : Nat) (M : List (Nat × Array Value × TypeId)) : List (Nat × Array Value × TypeId) := (g + 1, FlC l, 82) :: (g + 1 + 1, PkC P A n c, 36) :: (M ++ [(g, PkC zPk none 0 0, 36)])
@[go_sem] theorem foldl_SbC0 {x : List UInt8} {y : Int} : Array.foldl (fun (cs : Array Value) (x : Value × Nat) => cs.setIfInBounds x.snd x.fst) (SbC [] 0) (SbC x y).zipIdx 0 2 = SbC x y := by simp [SbC]
theorem subs_new {w0 w : World} {h : Nat} {f : List UInt8} {q : Int} {t : TypeId} {L : List (Nat × Array Value × TypeId)} (hK : Kp w0 ((h, SbC f q, t) :: L) w) : Subs w (some ⟨h, 0, none⟩) 1 [(f, q)] :=
  ⟨rfl, fun _ => ⟨h, 0, rfl, hK.lt, fun j x hx => by
    match j, hx with
    | 0, hx =>
      injection hx with hx
      subst hx
      rw [hK.row]
      exact ⟨by show 0 + 0 * 2 + 2 ≤ 2; omega, rfl⟩
    | j + 1, hx => simp at hx⟩⟩
theorem Subs.setT {w : World} {A : Option Addr} {n g B : Nat} {xs : List (List UInt8 × Int)} (h : Subs w A n xs) (hT : SubT B w A n) {cs0 : Array Value} {t : TypeId} (hg : w.heap[g]? = some (.cells cs0 t (0, 0))) (ht : t ≠ 42) (cs : Array Value) : Subs (w.setRow g cs) A n xs :=
  ⟨h.1, fun hn => by
    obtain ⟨b, off, e, hlt, hc⟩ := h.2 hn
    obtain ⟨_, cur, hcur⟩ := hT hn b off e
    have hne : b ≠ g := by
      intro e2
      rw [e2, hg] at hcur
      injection hcur with hcur
      injection hcur with _ h3 _
      exact ht h3
    have hr : rowAt (w.setRow g cs) b = rowAt w b := by unfold rowAt; rw [setRow_other w g b cs hne]
    exact ⟨b, off, e, by simpa using hlt, fun j x hx => by rw [hr]; exact hc j x hx⟩⟩
set_option maxHeartbeats 8000000 in
theorem guess_8 (c : Int) (l : List UInt8) (w : World) (h0 : 0 ≤ c) (h1 : c ≤ 255) (hl : l.length ≤ 1000000) (hT : c / 16 = 8) :
    Calls Tryz.prog 28 #[.int .u8 c, .string ⟨l.toArray⟩] w fun e w' => GUP w ((zPk.s_ty 8).s_id (woV l)) (guS 8 (gwL l)) e w' := by
  have e1 : c.tdiv 16 = c / 16 := by rw [Int.tdiv_eq_ediv_of_nonneg h0]
  have hw1 : IntKind.u8.wrap (c / 16) = c / 16 := IntWalk.u8_in _ (by omega)
  obtain ⟨v, hv⟩ : ∃ v, v = woV l := ⟨_, rfl⟩
  have hvb := wo_bd l
  rw [← hv] at hvb ⊢
  have HV := Lib.hid hv
  have hw2 : IntKind.u16.wrap v = v := IntWalk.u16_in _ (by omega)
  clear hv
  have hgl := gwL_le l
  obtain ⟨l2, hl2⟩ : ∃ l2, l2 = gwL l := ⟨_, rfl⟩
  have HL2 := Lib.hid hl2
  have hl2n : l2.length ≤ 1000000 := by rw [hl2]; omega
  obtain ⟨s2, hs2⟩ : ∃ s2 : Nat, s2 = l2.length + 1 := ⟨_, rfl⟩
  have hsI : (l2.length : Int) + 1 = (s2 : Int) := by omega
  have HSW : Hid (IntKind.i64.wrap (s2 : Int) = s2) := IntWalk.i64_in _ (by omega)
  have HS2 := Lib.hid hs2
  rw [← hl2]
  clear hl2 hgl hs2
  rw [hT] at e1 hw1
  clear hT
  obtain ⟨Q, hQ⟩ : ∃ Q, Q = (zPk.s_ty 8).s_id v := ⟨_, rfl⟩
  have HQ := Lib.hid hQ
  have hqt : Q.ty = 8 := by rw [hQ]; rfl
  have t0 : (zPk.s_ty 8).ty = 8 := rfl
  have hqq : (zPk.s_ty 8).s_id v = Q := hQ.symm
  rw [← hQ]
  clear hQ
  obtain ⟨XS, hXS⟩ : ∃ XS, XS = guS 8 l2 := ⟨_, rfl⟩
  have HXS : Hid ([] ++ (if l2.length < s2 then guS 8 l2 else []) = XS) := by show _ = _; rw [if_pos (by rw [HS2.out]; omega), hXS]; rfl
  rw [← hXS]
  clear hXS
  go_enter Tryz.func28, Tryz.ntmps28
  go_wp2_with (refine wpList_buildE rfl 82 _ rfl (FlC l) (by kernel_rfl) ?_)
  refine (fpWord (gnew w l (zPk.s_ty 8)) (gne1 _ _ _ _ _) (by omega)).mono ?_
  rintro e w2 ⟨rfl, hK2⟩
  rw [← HV.out]
  rw [← HL2.out] at hK2
  have HK3 := Lib.hid (gset (h := hK2) Q none 0 0)
  have hsw := HSW.out
  have a1r := hK2.row; have a1f := hK2.free; have a1c := hK2.cell; have a1l := hK2.lt; have a1z := hK2.froz
  have a2r := hK2.tail.row; have a2f := hK2.tail.free; have a2c := hK2.tail.cell; have a2l := hK2.tail.lt; have a2z := hK2.tail.froz
  have a3r := hK2.tail.tail.row; have a3f := hK2.tail.tail.free; have a3c := hK2.tail.tail.cell; have a3l := hK2.tail.tail.lt; have a3z := hK2.tail.tail.froz
  clear hK2
  go_wp2_with fail
  clear hsw hqq a1r a1f a1c a1l a1z a2r a2f a2c a2l a2z a3r a3f a3c a3l a3z
  obtain ⟨w3, hw3⟩ : ∃ w3, w3 = w2.setRow (w.heap.size + 1 + 1) (PkC Q none 0 0) := ⟨_, rfl⟩
  rw [← hw3] at HK3 ⊢
  clear hw3
  clear hsI
  have HNIL : Hid (∀ x ∈ ([] : List (Nat × Array Value × TypeId)), x.1 ≠ w.heap.size + 1 ∧ x.1 ≠ w.heap.size + 1 + 1) := Lib.hid (fun x hx => by cases hx)
  go_loopw [8] (fun z wr => ∃ (li : List UInt8) (u : Nat) (xs : List (List UInt8 × Int)) (A : Option Addr) (d : Nat) (M : List (Nat × Array Value × TypeId)), z = .int .i64 u ∧ Hid (Kp w (gM w.heap.size li Q A xs.length d M) wr) ∧ Hid (OwnM w M (.slice A xs.length d) xs.length (flatS xs)) ∧ Hid (∀ x ∈ M, x.1 ≠ w.heap.size + 1 ∧ x.1 ≠ w.heap.size + 1 + 1) ∧ Hid (xs ++ (if li.length < u then guS 8 li else []) = XS) ∧ Hid (xs.length + li.length ≤ 1000001 ∧ u ≤ 1000001 ∧ (li.length < u → xs.length + li.length ≤ 1000000))) (fun z wr => ticks (leftG wr (w.heap.size + 1)) (intOf z).toNat)
  case atStart => exact ⟨l2, s2, [], none, 0, [], rfl, HK3.out, ownM_nil, HNIL, HXS, by show _ ∧ _; have := HS2.out; simp; omega⟩
  case round =>
    clear HK3 HXS
    obtain ⟨li, u, xs, A, d, M, rfl, HK, HOM, HNM, HST, HLEN⟩ := hrel
    have hleft : leftG wr (w.heap.size + 1) = li.length := leftG_of HK.out.row
    have HLF := Lib.hid hleft
    clear hleft
    obtain ⟨k, hk⟩ : ∃ k, k = xs.length := ⟨_, rfl⟩
    have HKL := Lib.hid hk
    rw [← hk] at HK HOM
    clear hk
    have hKK := HK.out
    unfold gM at hKK
    have a1r := hKK.row; have a1f := hKK.free; have a1c := hKK.cell; have a1l := hKK.lt; have a1z := hKK.froz
    have a2r := hKK.tail.row; have a2f := hKK.tail.free; have a2c := hKK.tail.cell; have a2l := hKK.tail.lt; have a2z := hKK.tail.froz
    have u6 := HLEN.out.2.1
    have lin : li.length ≤ 1000001 := by have := HLEN.out; omega
    by_cases hgo : li.length < u ∧ li ≠ []
    · have hlt : li.length < u := hgo.1
      have hli : li ≠ [] := hgo.2
      have hlt1 : (li.length : Int) < (u : Int) := by omega
      have hpos : (0 : Int) < (li.length : Int) := by have := List.length_pos_iff.2 hli; omega
      have HLT := Lib.hid hlt
      have HU := Lib.hid (guS_go 8 li hli)
      have HKf := Lib.hid hKK
      clear hKK hgo
      go_wp2_with fail
      refine (fpData HKf.out (gneM Q A k d HNM.out) (by omega)).mono ?_
      rintro e w4 ⟨rfl, hK4⟩
      clear a1r a1f a1c a1l a1z a2r a2f a2c a2l a2z HKf hlt1 hpos hli
      obtain ⟨x, hx⟩ : ∃ x, x = gdV li := ⟨_, rfl⟩
      obtain ⟨l1, hl1⟩ : ∃ l1, l1 = gdL li := ⟨_, rfl⟩
      have hl1n : l1.length ≤ li.length := by rw [hl1]; exact gdL_le li
      obtain ⟨l2, hl2⟩ : ∃ l2, l2 = guL 8 li := ⟨_, rfl⟩
      have hl2n : l2.length ≤ li.length := by rw [hl2]; exact guL_le 8 li
      have HL2' : Hid (l1.tail = l2) := by show _ = _; rw [hl1, hl2]; unfold guL; rw [if_pos rfl]
      obtain ⟨y, hy⟩ : ∃ y : Int, y = byV l1 := ⟨_, rfl⟩
      have hyb := by_bd l1
      rw [← hy] at hyb
      have hyw : IntKind.u8.wrap y = y := IntWalk.u8_in _ (by omega)
      have HXU : Hid (guX 8 li = (x, y)) := by show _ = _; unfold guX; rw [if_pos rfl, ← hl1, ← hx, ← hy]
      have HY := Lib.hid hy
      rw [← hl2] at HU
      rw [← hl1] at hK4
      rw [← hx]
      clear hx hl1 hl2 hy
      have hK5 := hK4.new (SbC x 0) 42
      have hn3 : ∀ z ∈ (w.heap.size + 1, FlC l1, 82) :: (w.heap.size + 1 + 1, PkC Q A k d, 36) :: (M ++ [(w.heap.size, PkC zPk none 0 0, 36)]), z.1 ≠ w4.heap.size := fun z hz => by have := (Array.getElem?_eq_some_iff.1 (hK4.rows z hz).2).1; omega
      have a1r := hK4.row; have a1f := hK4.free; have a1c := hK4.cell; have a1l := hK4.lt; have a1z := hK4.froz
      have a2r := hK4.tail.row; have a2f := hK4.tail.free; have a2c := hK4.tail.cell; have a2l := hK4.tail.lt; have a2z := hK4.tail.froz
      have n1 : ¬ w.heap.size + 1 = w4.heap.size := by omega
      have n2 : ¬ w4.heap.size = w.heap.size + 1 := by omega
      have n3 : ¬ w.heap.size + 1 + 1 = w4.heap.size := by omega
      have n4 : ¬ w4.heap.size = w.heap.size + 1 + 1 := by omega
      have HK5 := Lib.hid hK5
      have HN3 := Lib.hid hn3
      clear hK4 hK5 hn3
      go_wp2_with fail
      refine (fpByte HK5.out.swap (by intro z hz; rcases List.mem_cons.1 hz with rfl | hz; exact n2; exact gneM Q A k d HNM.out z hz) (by omega)).mono ?_
      rintro e w6 ⟨rfl, hK6⟩
      clear a1r a1f a1c a1l a1z a2r a2f a2c a2l a2z HK5
      rw [HL2'.out] at hK6
      rw [← HY.out]
      obtain ⟨h5, hh5⟩ : ∃ h5, h5 = w4.heap.size := ⟨_, rfl⟩
      rw [← hh5] at hK6 n1 n2 n3 n4 HN3 ⊢
      clear hh5
      have hK6s := hK6.swap
      have hK7 := hK6s.set (by intro z hz; rcases List.mem_cons.1 hz with rfl | hz; exact n1; exact HN3.out z (List.mem_cons_of_mem _ hz)) (SbC x y)
      have hK6t := hK6s.tail.swap
      have a1r := hK6s.row; have a1f := hK6s.free; have a1c := hK6s.cell; have a1l := hK6s.lt; have a1z := hK6s.froz
      have b1r := hK6t.row; have b1f := hK6t.free; have b1c := hK6t.cell; have b1l := hK6t.lt; have b1z := hK6t.froz
      have hK8 := hK7.new (SbC x y) 42
      have HOW : Hid (OwnS w.heap.size w ((w6.setRow h5 (SbC x y)).alloc (.cells (SbC x y) 42)) (.slice A k d) xs) := ⟨by rw [← HKL.out]; exact HOM.out.1 _ (fun z hz => hK8.rows z (by simp [hz])), hK8.below, hK8.below.size⟩
      have HSN : Hid (Subs ((w6.setRow h5 (SbC x y)).alloc (.cells (SbC x y) 42)) (some ⟨w6.heap.size, 0, none⟩) 1 [(x, y)]) := by have h := subs_new hK8; rw [show (w6.setRow h5 (SbC x y)).heap.size = w6.heap.size by simp] at h; exact h
      have HKB := Lib.hid (hK8.sub (K' := (w.heap.size + 1, FlC l2, 82) :: (w.heap.size + 1 + 1, PkC Q A k d, 36) :: [(w.heap.size, PkC zPk none 0 0, 36)]) (fun z hz => by simp only [List.mem_cons, List.mem_append] at hz ⊢; rcases hz with hz | hz | hz <;> simp_all))
      have HTT : Hid (∀ z ∈ (w.heap.size + 1, FlC l2, 82) :: (w.heap.size + 1 + 1, PkC Q A k d, 36) :: [(w.heap.size, PkC zPk none 0 0, (36 : TypeId))], z.2.2 ≠ 42) := by
        intro z hz
        simp only [List.mem_cons, List.mem_nil_iff, or_false] at hz
        rcases hz with rfl | rfl | rfl
        · show (82 : TypeId) ≠ 42; decide
        · show (36 : TypeId) ≠ 42; decide
        · show (36 : TypeId) ≠ 42; decide
      have hkb : xs.length + 1 ≤ 10000000 := by have := HLEN.out; omega
      clear hK6 hK6s hK6t hK7 hK8
      go_wp2_with (at_builtin; refine wpList_sapp rfl _ _ rfl rfl HOW.out (some ⟨w6.heap.size, 0, none⟩) 1 1 [(x, y)] rfl HSN.out (fun e => by cases e) hkb ?_; intro v9 w9 hown9 hgr9; have hK9 := HKB.out.grown HOW.out.1 hgr9 HTT.out; obtain ⟨A9, c9, hv9, _, _, _⟩ := subs_of_own hown9.1; have HLN : Hid ((xs ++ [(x, y)]).length = k + 1) := (by show _ = _; rw [HKL.out]; simp); rw [HLN.out] at hv9; subst hv9; have HO9 := Lib.hid hown9.1; have HK9 := Lib.hid hK9; have hK9s := hK9.swap; have q1r := hK9s.row; have q1f := hK9s.free; have q1c := hK9s.cell; have q1l := hK9s.lt; have q1z := hK9s.froz; clear hK9 hK9s hown9 hgr9 a1r a1f a1c a1l a1z b1r b1f b1c b1l b1z)
      obtain ⟨M9, hM9, hR9⟩ := ownM_of HO9.out
      have hnm : ∀ z ∈ M9, z.1 ≠ w.heap.size + 1 ∧ z.1 ≠ w.heap.size + 1 + 1 := by
        intro z hz
        have e1 := (hR9 z hz).2
        have e4 := hM9.2 z hz
        refine ⟨fun e => ?_, fun e => ?_⟩
        · have e2 : w9.heap[w.heap.size + 1]? = _ := (HK9.out.rows _ (List.mem_cons_self ..)).2
          rw [e, e2] at e1
          injection e1 with e1
          injection e1 with _ e3 _
          rw [e4] at e3
          exact absurd (show (82 : TypeId) = 42 from e3) (by decide)
        · have e2 : w9.heap[w.heap.size + 1 + 1]? = _ := (HK9.out.swap.rows _ (List.mem_cons_self ..)).2
          rw [e, e2] at e1
          injection e1 with e1
          injection e1 with _ e3 _
          rw [e4] at e3
          exact absurd (show (36 : TypeId) = 42 from e3) (by decide)
      have hfin := (((HK9.out.add (M := M9) hR9).sub (K' := (w.heap.size + 1 + 1, PkC Q A k d, 36) :: (w.heap.size + 1, FlC l2, 82) :: (M9 ++ [(w.heap.size, PkC zPk none 0 0, 36)])) (fun z hz => by simp only [List.mem_cons, List.mem_append] at hz ⊢; rcases hz with hz | hz | hz | hz <;> simp_all)).set (gneN l2 hnm) (PkC Q A9 (k + 1) c9)).swap
      rw [HLN.out] at hM9
      have hst : (xs ++ [(x, y)]) ++ (if l2.length < li.length then guS 8 l2 else []) = XS := by
        have h9 := HST.out
        rw [if_pos HLT.out, HU.out, HXU.out] at h9
        rw [← h9]
        simp
      have hlen := HLEN.out
      refine ⟨⟨l2, li.length, xs ++ [(x, y)], A9, c9, M9, rfl, by rw [HLN.out]; exact hfin, by rw [HLN.out]; exact hM9, hnm, hst, ?_⟩, ?_⟩
      · show _ ∧ _
        rw [List.length_append]
        simp only [List.length_cons, List.length_nil]
        have := HLT.out
        refine ⟨by omega, by omega, fun h => by omega⟩
      · show ticks (leftG _ _) li.length < ticks (leftG wr (w.heap.size + 1)) u
        rw [HLF.out, leftG_of hfin.row]
        exact ticks_go HLT.out hl2n
    · have hHOM := HOM.out
      have hrows : ∀ x ∈ M, w.heap.size ≤ x.1 ∧ wr.heap[x.1]? = some (.cells x.2.1 x.2.2 (0, 0)) := fun x hx => hKK.rows x (by simp [hx])
      have hown := hHOM.1 wr hrows
      rw [HKL.out] at hown
      obtain ⟨A', c', hv, hS, hc', hlo⟩ := subs_of_own hown
      rw [← HKL.out] at hv
      injection hv with e1 _ e3
      subst e1 e3
      have hXe : xs = XS := by
        have h := HST.out
        by_cases h9 : li.length < u
        · have : li = [] := by by_cases h8 : li = []; exact h8; exact absurd ⟨h9, h8⟩ hgo
          rw [this, guS_nil, ite_self, List.append_nil] at h
          exact h
        · rw [if_neg h9, List.append_nil] at h
          exact h
      have HS9 := Lib.hid hS
      have HC9 := Lib.hid hc'
      have HX9 := Lib.hid hXe
      rw [← HKL.out] at hown
      have HT9 := Lib.hid (subT_own hown)
      rw [HKL.out] at HT9
      clear hS hc' hXe hrows hown hHOM
      have hB9 := hKK.sub (K' := [(w.heap.size, PkC zPk none 0 0, 36)]) (fun x hx => by simp at hx ⊢; simp [hx])
      have HB9 := Lib.hid hB9
      have b1r := hB9.row; have b1f := hB9.free; have b1c := hB9.cell; have b1l := hB9.lt; have b1z := hB9.froz
      clear hB9 hKK
      have FIN : Hid (GUP w Q XS (.returned (.agg (PkC Q A xs.length d))) (wr.setRow w.heap.size (PkC Q A k d))) := by
        show GUP w Q XS _ _
        rw [← HX9.out]
        exact ⟨A, d, rfl, (HB9.out.set (by intro x hx; cases hx) _).below, HS9.out.setT HT9.out (HB9.out.rows _ (List.mem_cons_self ..)).2 (show (36 : TypeId) ≠ 42 by decide) _, HC9.out, fun hn b o e => (HT9.out hn b o e).1⟩
      by_cases h8 : li = []
      · subst h8
        go_wp2_with fail
        refine ret_pk 4 w.heap.size Q A k d rfl rfl (by go_simp) rfl ?_
        have hfin := FIN.out
        rw [← HKL.out] at hfin
        exact hfin
      · have h9 : ¬ li.length < u := fun h => hgo ⟨h, h8⟩
        have h9i : ¬ (li.length : Int) < (u : Int) := by omega
        have h8i : (0 : Int) < (li.length : Int) := by have := List.length_pos_iff.2 h8; omega
        go_wp2_with fail
        refine ret_pk 4 w.heap.size Q A k d rfl rfl (by go_simp) rfl ?_
        have hfin := FIN.out
        rw [← HKL.out] at hfin
        exact hfin
set_option maxHeartbeats 8000000 in
theorem guess_10 (c : Int) (l : List UInt8) (w : World) (h0 : 0 ≤ c) (h1 : c ≤ 255) (hl : l.length ≤ 1000000) (hT : c / 16 = 10) :
    Calls Tryz.prog 28 #[.int .u8 c, .string ⟨l.toArray⟩] w fun e w' => GUP w ((zPk.s_ty 10).s_id (woV l)) (guS 10 (gwL l)) e w' := by
  have e1 : c.tdiv 16 = c / 16 := by rw [Int.tdiv_eq_ediv_of_nonneg h0]
  have hw1 : IntKind.u8.wrap (c / 16) = c / 16 := IntWalk.u8_in _ (by omega)
  obtain ⟨v, hv⟩ : ∃ v, v = woV l := ⟨_, rfl⟩
  have hvb := wo_bd l
  rw [← hv] at hvb ⊢
  have HV := Lib.hid hv
  have hw2 : IntKind.u16.wrap v = v := IntWalk.u16_in _ (by omega)
  clear hv
  have hgl := gwL_le l
  obtain ⟨l2, hl2⟩ : ∃ l2, l2 = gwL l := ⟨_, rfl⟩
  have HL2 := Lib.hid hl2
  have hl2n : l2.length ≤ 1000000 := by rw [hl2]; omega
  obtain ⟨s2, hs2⟩ : ∃ s2 : Nat, s2 = l2.length + 1 := ⟨_, rfl⟩
  have hsI : (l2.length : Int) + 1 = (s2 : Int) := by omega
  have HSW : Hid (IntKind.i64.wrap (s2 : Int) = s2) := IntWalk.i64_in _ (by omega)
  have HS2 := Lib.hid hs2
  rw [← hl2]
  clear hl2 hgl hs2
  rw [hT] at e1 hw1
  clear hT
  obtain ⟨Q, hQ⟩ : ∃ Q, Q = (zPk.s_ty 10).s_id v := ⟨_, rfl⟩
  have HQ := Lib.hid hQ
  have hqt : Q.ty = 10 := by rw [hQ]; rfl
  have t0 : (zPk.s_ty 10).ty = 10 := rfl
  have hqq : (zPk.s_ty 10).s_id v = Q := hQ.symm
  rw [← hQ]
  clear hQ
  obtain ⟨XS, hXS⟩ : ∃ XS, XS = guS 10 l2 := ⟨_, rfl⟩
  have HXS : Hid ([] ++ (if l2.length < s2 then guS 10 l2 else []) = XS) := by show _ = _; rw [if_pos (by rw [HS2.out]; omega), hXS]; rfl
  rw [← hXS]
  clear hXS
  go_enter Tryz.func28, Tryz.ntmps28
  go_wp2_with (refine wpList_buildE rfl 82 _ rfl (FlC l) (by kernel_rfl) ?_)
  refine (fpWord (gnew w l (zPk.s_ty 10)) (gne1 _ _ _ _ _) (by omega)).mono ?_
  rintro e w2 ⟨rfl, hK2⟩
  rw [← HV.out]
  rw [← HL2.out] at hK2
  have HK3 := Lib.hid (gset (h := hK2) Q none 0 0)
  have hsw := HSW.out
  have a1r := hK2.row; have a1f := hK2.free; have a1c := hK2.cell; have a1l := hK2.lt; have a1z := hK2.froz
  have a2r := hK2.tail.row; have a2f := hK2.tail.free; have a2c := hK2.tail.cell; have a2l := hK2.tail.lt; have a2z := hK2.tail.froz
  have a3r := hK2.tail.tail.row; have a3f := hK2.tail.tail.free; have a3c := hK2.tail.tail.cell; have a3l := hK2.tail.tail.lt; have a3z := hK2.tail.tail.froz
  clear hK2
  go_wp2_with fail
  clear hsw hqq a1r a1f a1c a1l a1z a2r a2f a2c a2l a2z a3r a3f a3c a3l a3z
  obtain ⟨w3, hw3⟩ : ∃ w3, w3 = w2.setRow (w.heap.size + 1 + 1) (PkC Q none 0 0) := ⟨_, rfl⟩
  rw [← hw3] at HK3 ⊢
  clear hw3
  clear hsI
  have HNIL : Hid (∀ x ∈ ([] : List (Nat × Array Value × TypeId)), x.1 ≠ w.heap.size + 1 ∧ x.1 ≠ w.heap.size + 1 + 1) := Lib.hid (fun x hx => by cases hx)
  go_loopw [8] (fun z wr => ∃ (li : List UInt8) (u : Nat) (xs : List (List UInt8 × Int)) (A : Option Addr) (d : Nat) (M : List (Nat × Array Value × TypeId)), z = .int .i64 u ∧ Hid (Kp w (gM w.heap.size li Q A xs.length d M) wr) ∧ Hid (OwnM w M (.slice A xs.length d) xs.length (flatS xs)) ∧ Hid (∀ x ∈ M, x.1 ≠ w.heap.size + 1 ∧ x.1 ≠ w.heap.size + 1 + 1) ∧ Hid (xs ++ (if li.length < u then guS 10 li else []) = XS) ∧ Hid (xs.length + li.length ≤ 1000001 ∧ u ≤ 1000001 ∧ (li.length < u → xs.length + li.length ≤ 1000000))) (fun z wr => ticks (leftG wr (w.heap.size + 1)) (intOf z).toNat)
  case atStart => exact ⟨l2, s2, [], none, 0, [], rfl, HK3.out, ownM_nil, HNIL, HXS, by show _ ∧ _; have := HS2.out; simp; omega⟩
  case round =>
    clear HK3 HXS
    obtain ⟨li, u, xs, A, d, M, rfl, HK, HOM, HNM, HST, HLEN⟩ := hrel
    have hleft : leftG wr (w.heap.size + 1) = li.length := leftG_of HK.out.row
    have HLF := Lib.hid hleft
    clear hleft
    obtain ⟨k, hk⟩ : ∃ k, k = xs.length := ⟨_, rfl⟩
    have HKL := Lib.hid hk
    rw [← hk] at HK HOM
    clear hk
    have hKK := HK.out
    unfold gM at hKK
    have a1r := hKK.row; have a1f := hKK.free; have a1c := hKK.cell; have a1l := hKK.lt; have a1z := hKK.froz
    have a2r := hKK.tail.row; have a2f := hKK.tail.free; have a2c := hKK.tail.cell; have a2l := hKK.tail.lt; have a2z := hKK.tail.froz
    have u6 := HLEN.out.2.1
    have lin : li.length ≤ 1000001 := by have := HLEN.out; omega
    by_cases hgo : li.length < u ∧ li ≠ []
    · have hlt : li.length < u := hgo.1
      have hli : li ≠ [] := hgo.2
      have hlt1 : (li.length : Int) < (u : Int) := by omega
      have hpos : (0 : Int) < (li.length : Int) := by have := List.length_pos_iff.2 hli; omega
      have HLT := Lib.hid hlt
      have HU := Lib.hid (guS_go 10 li hli)
      have HKf := Lib.hid hKK
      clear hKK hgo
      go_wp2_with fail
      refine (fpData HKf.out (gneM Q A k d HNM.out) (by omega)).mono ?_
      rintro e w4 ⟨rfl, hK4⟩
      clear a1r a1f a1c a1l a1z a2r a2f a2c a2l a2z HKf hlt1 hpos hli
      obtain ⟨x, hx⟩ : ∃ x, x = gdV li := ⟨_, rfl⟩
      obtain ⟨l1, hl1⟩ : ∃ l1, l1 = gdL li := ⟨_, rfl⟩
      have hl1n : l1.length ≤ li.length := by rw [hl1]; exact gdL_le li
      obtain ⟨l2, hl2⟩ : ∃ l2, l2 = guL 10 li := ⟨_, rfl⟩
      have hl2n : l2.length ≤ li.length := by rw [hl2]; exact guL_le 10 li
      have HL2' : Hid (l1 = l2) := by show _ = _; rw [hl1, hl2]; unfold guL; rw [if_neg (by decide)]
      have HXU : Hid (guX 10 li = (x, 0)) := by show _ = _; unfold guX; rw [if_neg (by decide), ← hx]
      rw [← hl2] at HU
      rw [← hl1] at hK4
      rw [← hx]
      rw [HL2'.out] at hK4
      clear hx hl1 hl2
      have hK5 := hK4.new (SbC x 0) 42
      have hK8 := hK5.new (SbC x 0) 42
      have a1r := hK4.row; have a1f := hK4.free; have a1c := hK4.cell; have a1l := hK4.lt; have a1z := hK4.froz
      have a2r := hK4.tail.row; have a2f := hK4.tail.free; have a2c := hK4.tail.cell; have a2l := hK4.tail.lt; have a2z := hK4.tail.froz
      have n1 : ¬ w.heap.size + 1 = w4.heap.size := by omega
      have n2 : ¬ w4.heap.size = w.heap.size + 1 := by omega
      have n3 : ¬ w.heap.size + 1 + 1 = w4.heap.size := by omega
      have n4 : ¬ w4.heap.size = w.heap.size + 1 + 1 := by omega
      have HOW : Hid (OwnS w.heap.size w ((w4.alloc (.cells (SbC x 0) 42)).alloc (.cells (SbC x 0) 42)) (.slice A k d) xs) := ⟨by rw [← HKL.out]; exact HOM.out.1 _ (fun z hz => hK8.rows z (by simp [hz])), hK8.below, hK8.below.size⟩
      have HSN : Hid (Subs ((w4.alloc (.cells (SbC x 0) 42)).alloc (.cells (SbC x 0) 42)) (some ⟨w4.heap.size + 1, 0, none⟩) 1 [(x, 0)]) := by have h := subs_new hK8; rw [World.size_alloc] at h; exact h
      have HKB := Lib.hid (hK8.sub (K' := (w.heap.size + 1, FlC l2, 82) :: (w.heap.size + 1 + 1, PkC Q A k d, 36) :: [(w.heap.size, PkC zPk none 0 0, 36)]) (fun z hz => by simp only [List.mem_cons, List.mem_append] at hz ⊢; rcases hz with hz | hz | hz <;> simp_all))
      have HTT : Hid (∀ z ∈ (w.heap.size + 1, FlC l2, 82) :: (w.heap.size + 1 + 1, PkC Q A k d, 36) :: [(w.heap.size, PkC zPk none 0 0, (36 : TypeId))], z.2.2 ≠ 42) := by
        intro z hz
        simp only [List.mem_cons, List.mem_nil_iff, or_false] at hz
        rcases hz with rfl | rfl | rfl
        · show (82 : TypeId) ≠ 42; decide
        · show (36 : TypeId) ≠ 42; decide
        · show (36 : TypeId) ≠ 42; decide
      have hkb : xs.length + 1 ≤ 10000000 := by have := HLEN.out; omega
      clear hK4 hK5 hK8
      go_wp2_with (at_builtin; refine wpList_sapp rfl _ _ rfl rfl HOW.out (some ⟨w4.heap.size + 1, 0, none⟩) 1 1 [(x, 0)] rfl HSN.out (fun e => by cases e) hkb ?_; intro v9 w9 hown9 hgr9; have hK9 := HKB.out.grown HOW.out.1 hgr9 HTT.out; obtain ⟨A9, c9, hv9, _, _, _⟩ := subs_of_own hown9.1; have HLN : Hid ((xs ++ [(x, 0)]).length = k + 1) := (by show _ = _; rw [HKL.out]; simp); rw [HLN.out] at hv9; subst hv9; have HO9 := Lib.hid hown9.1; have HK9 := Lib.hid hK9; have hK9s := hK9.swap; have q1r := hK9s.row; have q1f := hK9s.free; have q1c := hK9s.cell; have q1l := hK9s.lt; have q1z := hK9s.froz; clear hK9 hK9s hown9 hgr9 a1r a1f a1c a1l a1z a2r a2f a2c a2l a2z)
      obtain ⟨M9, hM9, hR9⟩ := ownM_of HO9.out
      have hnm : ∀ z ∈ M9, z.1 ≠ w.heap.size + 1 ∧ z.1 ≠ w.heap.size + 1 + 1 := by
        intro z hz
        have e1 := (hR9 z hz).2
        have e4 := hM9.2 z hz
        refine ⟨fun e => ?_, fun e => ?_⟩
        · have e2 : w9.heap[w.heap.size + 1]? = _ := (HK9.out.rows _ (List.mem_cons_self ..)).2
          rw [e, e2] at e1
          injection e1 with e1
          injection e1 with _ e3 _
          rw [e4] at e3
          exact absurd (show (82 : TypeId) = 42 from e3) (by decide)
        · have e2 : w9.heap[w.heap.size + 1 + 1]? = _ := (HK9.out.swap.rows _ (List.mem_cons_self ..)).2
          rw [e, e2] at e1
          injection e1 with e1
          injection e1 with _ e3 _
          rw [e4] at e3
          exact absurd (show (36 : TypeId) = 42 from e3) (by decide)
      have hfin := (((HK9.out.add (M := M9) hR9).sub (K' := (w.heap.size + 1 + 1, PkC Q A k d, 36) :: (w.heap.size + 1, FlC l2, 82) :: (M9 ++ [(w.heap.size, PkC zPk none 0 0, 36)])) (fun z hz => by simp only [List.mem_cons, List.mem_append] at hz ⊢; rcases hz with hz | hz | hz | hz <;> simp_all)).set (gneN l2 hnm) (PkC Q A9 (k + 1) c9)).swap
      rw [HLN.out] at hM9
      have hst : (xs ++ [(x, 0)]) ++ (if l2.length < li.length then guS 10 l2 else []) = XS := by
        have h9 := HST.out
        rw [if_pos HLT.out, HU.out, HXU.out] at h9
        rw [← h9]
        simp
      have hlen := HLEN.out
      refine ⟨⟨l2, li.length, xs ++ [(x, 0)], A9, c9, M9, rfl, by rw [HLN.out]; exact hfin, by rw [HLN.out]; exact hM9, hnm, hst, ?_⟩, ?_⟩
      · show _ ∧ _
        rw [List.length_append]
        simp only [List.length_cons, List.length_nil]
        have := HLT.out
        refine ⟨by omega, by omega, fun h => by omega⟩
      · show ticks (leftG _ _) li.length < ticks (leftG wr (w.heap.size + 1)) u
        rw [HLF.out, leftG_of hfin.row]
        exact ticks_go HLT.out hl2n
    · have hHOM := HOM.out
      have hrows : ∀ x ∈ M, w.heap.size ≤ x.1 ∧ wr.heap[x.1]? = some (.cells x.2.1 x.2.2 (0, 0)) := fun x hx => hKK.rows x (by simp [hx])
      have hown := hHOM.1 wr hrows
      rw [HKL.out] at hown
      obtain ⟨A', c', hv, hS, hc', hlo⟩ := subs_of_own hown
      rw [← HKL.out] at hv
      injection hv with e1 _ e3
      subst e1 e3
      have hXe : xs = XS := by
        have h := HST.out
        by_cases h9 : li.length < u
        · have : li = [] := by by_cases h8 : li = []; exact h8; exact absurd ⟨h9, h8⟩ hgo
          rw [this, guS_nil, ite_self, List.append_nil] at h
          exact h
        · rw [if_neg h9, List.append_nil] at h
          exact h
      have HS9 := Lib.hid hS
      have HC9 := Lib.hid hc'
      have HX9 := Lib.hid hXe
      rw [← HKL.out] at hown
      have HT9 := Lib.hid (subT_own hown)
      rw [HKL.out] at HT9
      clear hS hc' hXe hrows hown hHOM
      have hB9 := hKK.sub (K' := [(w.heap.size, PkC zPk none 0 0, 36)]) (fun x hx => by simp at hx ⊢; simp [hx])
      have HB9 := Lib.hid hB9
      have b1r := hB9.row; have b1f := hB9.free; have b1c := hB9.cell; have b1l := hB9.lt; have b1z := hB9.froz
      clear hB9 hKK
      have FIN : Hid (GUP w Q XS (.returned (.agg (PkC Q A xs.length d))) (wr.setRow w.heap.size (PkC Q A k d))) := by
        show GUP w Q XS _ _
        rw [← HX9.out]
        exact ⟨A, d, rfl, (HB9.out.set (by intro x hx; cases hx) _).below, HS9.out.setT HT9.out (HB9.out.rows _ (List.mem_cons_self ..)).2 (show (36 : TypeId) ≠ 42 by decide) _, HC9.out, fun hn b o e => (HT9.out hn b o e).1⟩
      by_cases h8 : li = []
      · subst h8
        go_wp2_with fail
        refine ret_pk 4 w.heap.size Q A k d rfl rfl (by go_simp) rfl ?_
        have hfin := FIN.out
        rw [← HKL.out] at hfin
        exact hfin
      · have h9 : ¬ li.length < u := fun h => hgo ⟨h, h8⟩
        have h9i : ¬ (li.length : Int) < (u : Int) := by omega
        have h8i : (0 : Int) < (li.length : Int) := by have := List.length_pos_iff.2 h8; omega
        go_wp2_with fail
        refine ret_pk 4 w.heap.size Q A k d rfl rfl (by go_simp) rfl ?_
        have hfin := FIN.out
        rw [← HKL.out] at hfin
        exact hfin
end Go.Proofs.YtnaedcennichlaaGreatDoor
