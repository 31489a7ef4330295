/-
  read: what the parser does with Subs.
-/
import Derived.Test.YtncgkkhpcgdcaaaDoorRdCon
import Derived.Deep.AppendLies
import Derived.Deep.RegionLaw
set_option linter.unusedSimpArgs false
set_option linter.unusedVariables false
namespace Go.Proofs.YtncgkkhpcgdcaaaDoor
open Go.RowKit
set_option maxRecDepth 100000
/-- How much is left of a reader's bytes. -/
def leftN (w : World) (g : Nat) : Nat := match ((rowAt w g)[0]? : Option Value) with
  | some (.string s) => s.size
  | _ => 0
theorem leftN_of {w : World} {g : Nat} {l : List UInt8} {f : Bool} {R : Array Value} (h : rowAt w g = Rw l f R) : leftN w g = l.length := by
  unfold leftN
  rw [h, Rw_0]
  show l.toArray.size = l.length
  simp
section
variable {w0 w w' : World} {K K' M : List (Nat × Array Value × TypeId)} {v : Value} {m : Nat} {xs : List Value}
theorem Kp.grown (h : Kp w0 K w) (hown : w.ownsRow w0.heap.size 57 2 v m xs) (hgr : w.grownBy w' v.ownBlock) (hT : ∀ x ∈ K, x.2.2 ≠ 57) : Kp w0 K w' := by
  refine ⟨fun x hx => ?_, h.below.grown hgr h.below.size (fun k hk => (hown.lt k hk).1)⟩
  obtain ⟨h1, h2⟩ := h.rows x hx
  refine ⟨h1, (hgr.block x.1 (Array.getElem?_eq_some_iff.1 h2).1 (fun e => ?_)).trans h2⟩
  rcases hown.2 with ⟨rfl, _⟩ | ⟨g, cap, cur, rfl, _, hh, _⟩
  · cases e
  · have e2 : x.1 = g := by simpa [Value.ownBlock] using e
    rw [← e2, h2] at hh
    injection hh with hh
    injection hh with _ h4 _
    exact hT x hx h4
theorem Kp.sub (h : Kp w0 K w) (hs : ∀ x ∈ K', x ∈ K) : Kp w0 K' w := ⟨fun x hx => h.rows x (hs x hx), h.below⟩
theorem Kp.add (h : Kp w0 K w) (hM : ∀ x ∈ M, w0.heap.size ≤ x.1 ∧ w.heap[x.1]? = some (.cells x.2.1 x.2.2 (0, 0))) : Kp w0 (M ++ K) w :=
  ⟨fun x hx => by
    rcases List.mem_append.1 hx with hx | hx
    · exact hM x hx
    · exact h.rows x hx, h.below⟩
/-- The blocks M hold the call's own row of Subs. -/
def OwnM (w0 : World) (M : List (Nat × Array Value × TypeId)) (v : Value) (n : Nat) (xs : List Value) : Prop :=
  (∀ w' : World, (∀ x ∈ M, w0.heap.size ≤ x.1 ∧ w'.heap[x.1]? = some (.cells x.2.1 x.2.2 (0, 0))) → w'.ownsRow w0.heap.size 57 2 v n xs) ∧ ∀ x ∈ M, x.2.2 = 57
theorem ownM_nil : OwnM w0 [] (.slice none 0 0) 0 [] := ⟨fun w' _ => World.ownsRow_nil _ _ _ _, fun x hx => by cases hx⟩
theorem ownM_of (h : w.ownsRow w0.heap.size 57 2 v m xs) : ∃ M, OwnM w0 M v m xs ∧ ∀ x ∈ M, w0.heap.size ≤ x.1 ∧ w.heap[x.1]? = some (.cells x.2.1 x.2.2 (0, 0)) := by
  have h0 := h
  obtain ⟨h1, h2⟩ := h
  rcases h2 with ⟨rfl, hn⟩ | ⟨g, cap, cur, rfl, hB, hh, hr⟩
  · exact ⟨[], ⟨fun w' _ => ⟨h1, Or.inl ⟨rfl, hn⟩⟩, fun x hx => by cases hx⟩, fun x hx => by cases hx⟩
  · refine ⟨[(g, cur, 57)], ⟨fun w' hw => ?_, fun x hx => ?_⟩, fun x hx => ?_⟩
    · exact ⟨h1, Or.inr ⟨g, cap, cur, rfl, hB, (hw (g, cur, 57) (by simp)).2, hr⟩⟩
    · simp at hx; rw [hx]
    · simp at hx; rw [hx]; exact ⟨hB, hh⟩
/-- A row of Subs lies in a block of Subs. -/
def SubT (w : World) (A : Option Addr) (n : Nat) : Prop := 0 < n → ∀ b o, A = some ⟨b, o, none⟩ → ∃ cur, w.heap[b]? = some (.cells cur 57 (0, 0))
theorem subT_own {A : Option Addr} {n c B : Nat} (h : w.ownsRow B 57 2 (.slice A n c) n xs) : SubT w A n := by
  intro hn b o e
  rcases h.2 with ⟨_, h0⟩ | ⟨g, cap, cur, hv, _, hh, _⟩
  · omega
  · injection hv with h1 _ _
    rw [e] at h1
    cases h1
    exact ⟨cur, hh⟩
theorem sub_news {g : Nat} {f : List UInt8} {q : Int} {t : TypeId} {L : List (Nat × Array Value × TypeId)} (h : Kp w0 ((g, SbC f q, t) :: L) w) : ∀ j u, (flatS [(f, q)])[j]? = some u → w.cell? ((⟨g, 0, none⟩ : Addr).add j) = some u := by
  intro j u hu
  have hadd : (⟨g, 0, none⟩ : Addr).add j = ⟨g, j, none⟩ := by unfold Addr.add; split <;> simp_all
  rw [hadd, h.cell j]
  match j, hu with
  | 0, hu => simpa [flatS, SbC] using hu
  | 1, hu => simpa [flatS, SbC] using hu
  | j + 2, hu => simp [flatS] at hu
end
section
variable {w0 w : World} {g : Nat} {l : List UInt8} {f : Bool} {p : Pk} {t : TypeId} {L : List (Nat × Array Value × TypeId)}
set_option maxHeartbeats 4000000 in
theorem pSubs (h : Kp w0 ((g, Rw l f (PkC p none 0 0), t) :: L) w) (hne : ∀ x ∈ L, x.1 ≠ g) (ht : t ≠ 57) (hT : ∀ x ∈ L, x.2.2 ≠ 57) (hl : l.length ≤ 1000000) (T : Int) (hty : p.ty = T) (hTT : T = 8 ∨ T = 10) :
    Calls Tryd.prog 60 #[.pointer (some ⟨g, 0, none⟩)] w fun e w' => e = .returned (.tuple #[]) ∧ ∃ A c, Kp w0 ((g, Rw [] (suT T (woL l) (woF l f)).1 (PkC (p.s_id (woV l)) A (suT T (woL l) (woF l f)).2.length c), t) :: L) w'
      ∧ Subs w' A (suT T (woL l) (woF l f)).2.length (suT T (woL l) (woF l f)).2 ∧ (A = none → c = 0) ∧ SubT w' A (suT T (woL l) (woF l f)).2.length := by
  have hwl := woL_le l
  obtain ⟨F, hF⟩ : ∃ F, F = (suT T (woL l) (woF l f)).1 := ⟨_, rfl⟩
  obtain ⟨XS, hXS⟩ : ∃ XS, XS = (suT T (woL l) (woF l f)).2 := ⟨_, rfl⟩
  rw [← hF, ← hXS]
  obtain ⟨l0, hl0⟩ : ∃ l0, l0 = woL l := ⟨_, rfl⟩
  obtain ⟨f0, hf0⟩ : ∃ f0, f0 = woF l f := ⟨_, rfl⟩
  obtain ⟨q, hq⟩ : ∃ q, q = p.s_id (woV l) := ⟨_, rfl⟩
  have hl0l : l0.length ≤ 1000000 := by rw [hl0]; omega
  have hqt : q.ty = T := by rw [hq]; exact hty
  have HST : Hid ((suT T l0 f0).1 = F ∧ [] ++ (suT T l0 f0).2 = XS) := by show _ ∧ _; rw [hl0, hf0]; exact ⟨hF.symm, by simp [hXS]⟩
  have HQ := Lib.hid hq
  have HL0 := Lib.hid hl0
  have HF0 := Lib.hid hf0
  have HQT : Hid (q.ty = T) := hqt
  have hTY : Hid (∀ x ∈ (g, (#[] : Array Value), t) :: L, x.2.2 ≠ 57) := by
    intro x hx
    rcases List.mem_cons.1 hx with rfl | hx
    · exact ht
    · exact hT x hx
  obtain ⟨i, hi, hz0, hz1, hz2⟩ := info_parts sub_info
  clear hF hXS hty hqt hwl
  rw [← hq]
  clear hq hl0 hf0
  rcases hTT with rfl | rfl
  · have hq8 : (q.ty == 8) = true := by rw [HQT.out]; rfl
    go_enter Tryd.func60, Tryd.ntmps60
    go_wp2_with fail
    refine (rWord h hne (by omega)).mono ?_
    rintro e w1 ⟨rfl, hK1⟩
    clear h
    have hK2 := hK1.set hne (Rw l0 f0 (PkC q none 0 0))
    rw [← HL0.out, ← HF0.out] at hK1
    have a1r := hK1.row; have a1f := hK1.free; have a1c := hK1.cell; have a1l := hK1.lt; have a1z := hK1.froz
    go_wp2_with fail
    have HW : Hid (w1.setRow g (Rw l0 f0 (PkC (p.s_id (woV l)) none 0 0)) = w1.setRow g (Rw l0 f0 (PkC q none 0 0))) := by show _ = _; rw [HQ.out]
    rw [HW.out]
    obtain ⟨w2, hw2⟩ : ∃ w2, w2 = w1.setRow g (Rw l0 f0 (PkC q none 0 0)) := ⟨_, rfl⟩
    rw [← hw2] at hK2 ⊢
    clear hw2 HW a1r a1f a1c a1l a1z hK1
    go_loopw [2] (fun _ wr => ∃ (li : List UInt8) (fi : Bool) (xs : List (List UInt8 × Int)) (A : Option Addr) (c : Nat) (M : List (Nat × Array Value × TypeId)), Kp w0 ((g, Rw li fi (PkC q A xs.length c), t) :: (M ++ L)) wr ∧ OwnM w0 M (.slice A xs.length c) xs.length (flatS xs) ∧ (∀ x ∈ M ++ L, x.1 ≠ g) ∧ Hid ((suT 8 li fi).1 = F ∧ xs ++ (suT 8 li fi).2 = XS) ∧ xs.length + li.length ≤ 1000000) (fun _ wr => leftN wr g)
    case atStart => exact ⟨l0, f0, [], none, 0, [], hK2, ownM_nil, hne, HST, by simpa using hl0l⟩
    case round =>
      clear hK2
      obtain ⟨li, fi, xs, A, c, M, hK, hOM, hnM, hst, hlen⟩ := hrel
      have hleft : leftN wr g = li.length := leftN_of hK.row
      obtain ⟨k, hk⟩ : ∃ k, k = xs.length := ⟨_, rfl⟩
      have HK := Lib.hid hk
      rw [← hk] at hK hOM hlen
      clear hk
      by_cases hli : li = []
      · subst hli
        have hst2 : F = fi ∧ xs = XS := by have := hst.out; rw [suT_nil] at this; exact ⟨this.1.symm, by simpa using this.2⟩
        obtain ⟨rfl, rfl⟩ := hst2
        have hown := hOM.1 wr (fun x hx => hK.rows x (by simp [hx]))
        rw [HK.out] at hown
        obtain ⟨A', c', hv, hS, hc', _⟩ := subs_of_own hown
        rw [← HK.out] at hown
        injection hv with e1 _ e3
        subst e1 e3
        have hfin := hK.sub (K' := (g, Rw [] F (PkC q A k c), t) :: L) (fun x hx => by simp only [List.mem_cons, List.mem_append] at hx ⊢; rcases hx with hx | hx <;> simp [hx])
        rw [HK.out] at hfin
        have HFIN := Lib.hid hfin
        have HSS := Lib.hid hS
        have HCC := Lib.hid hc'
        have HTS := Lib.hid (subT_own hown)
        rw [HK.out] at HTS
        clear hfin hS hc' hown hOM hleft
        have a1r := hK.row; have a1f := hK.free; have a1c := hK.cell; have a1l := hK.lt; have a1z := hK.froz
        go_wp2_with fail
        go_end0
        exact ⟨rfl, A, c, HFIN.out, HSS.out, HCC.out, HTS.out⟩
      · have hlb : (li == []) = false := by rw [beq_eq_false_iff_ne]; exact hli
        have HU := Lib.hid (suT_8 li fi hli)
        have hlt := gtL_lt li hli
        have hKK := hK
        have a1r := hKK.row; have a1f := hKK.free; have a1c := hKK.cell; have a1l := hKK.lt; have a1z := hKK.froz
        clear hKK hli hleft
        go_wp2_with fail
        refine (rText hK hnM (by omega)).mono ?_
        rintro e w3 ⟨rfl, hK3⟩
        clear a1r a1f a1c a1l a1z
        have hleft : leftN wr g = li.length := leftN_of hK.row
        clear hK
        obtain ⟨x, hx⟩ : ∃ x, x = gtV (getR li) := ⟨_, rfl⟩
        obtain ⟨l1, hl1⟩ : ∃ l1, l1 = gtL li (getR li) := ⟨_, rfl⟩
        obtain ⟨f1, hf1⟩ : ∃ f1, f1 = gtF fi (getR li) := ⟨_, rfl⟩
        rw [← hl1, ← hf1] at hK3
        rw [← hl1] at hlt
        rw [← hx, ← hl1, ← hf1] at HU
        rw [← hx]
        clear hx hl1 hf1
        have hgl := hK3.lt
        have hK4 := hK3.new (SbC x 0) 57
        have hn3 : ∀ y ∈ (g, Rw l1 f1 (PkC q A k c), t) :: (M ++ L), y.1 ≠ w3.heap.size := fun y hy => by have := (Array.getElem?_eq_some_iff.1 (hK3.rows y hy).2).1; omega
        have hn4 : ∀ y ∈ (w3.heap.size, SbC x 0, 57) :: (M ++ L), y.1 ≠ g := by
          intro y hy
          rcases List.mem_cons.1 hy with rfl | hy
          · show w3.heap.size ≠ g; omega
          · exact hnM y hy
        have a1r := hK3.row; have a1f := hK3.free; have a1c := hK3.cell; have a1l := hK3.lt; have a1z := hK3.froz
        have n1 : ¬ g = w3.heap.size := by omega
        have n2 : ¬ w3.heap.size = g := by omega
        go_wp2_with fail
        refine (rByte hK4.swap hn4 (by omega)).mono ?_
        rintro e w4 ⟨rfl, hK5⟩
        clear a1r a1f a1c a1l a1z hK3 hK4 hn4
        have hn5 : ∀ y ∈ (g, Rw l1.tail (byF l1 f1) (PkC q A k c), t) :: (M ++ L), y.1 ≠ w3.heap.size := by
          intro y hy
          rcases List.mem_cons.1 hy with rfl | hy
          · exact n1
          · exact hn3 y (by simp [hy])
        have hK6 := hK5.swap.set hn5 (SbC x (byV l1))
        have hK7 := hK5.swap
        have a1r := hK7.row; have a1f := hK7.free; have a1c := hK7.cell; have a1l := hK7.lt; have a1z := hK7.froz
        have a2r := hK7.tail.row; have a2f := hK7.tail.free; have a2c := hK7.tail.cell; have a2l := hK7.tail.lt; have a2z := hK7.tail.froz
        go_upto_region 5 with fail
        obtain ⟨w5, hw5⟩ : ∃ w5, w5 = w4.setRow w3.heap.size (SbC x (byV l1)) := ⟨_, rfl⟩
        rw [← hw5] at hK6 ⊢
        clear hw5 a1r a1f a1c a1l a1z a2r a2f a2c a2l a2z hK5 hK7
        have hlt2 : l1.tail.length < li.length := by rw [List.length_tail]; omega
        obtain ⟨l2, hl2⟩ : ∃ l2, l2 = l1.tail := ⟨_, rfl⟩
        obtain ⟨f2, hf2⟩ : ∃ f2, f2 = (byF l1 f1) := ⟨_, rfl⟩
        obtain ⟨y, hy⟩ : ∃ y : Int, y = (byV l1) := ⟨_, rfl⟩
        rw [← hl2, ← hf2, ← hy] at hK6 HU
        rw [← hl2] at hlt2
        clear hy hl2 hf2
        obtain ⟨h5, hh5⟩ : ∃ h5, h5 = w3.heap.size := ⟨_, rfl⟩
        rw [← hh5] at hK6 n1 n2 hn3 ⊢
        clear hh5
        have hKa := hK6.drew.new (SbC x y) 57
        have HOW := Lib.hid (hOM.1 _ (fun z hz => hKa.rows z (by simp [hz])))
        have HNEW := Lib.hid (sub_news hKa)
        have HKB := Lib.hid (hKa.sub (K' := (g, Rw l2 f2 (PkC q A k c), t) :: L) (fun z hz => by simp only [List.mem_cons, List.mem_append] at hz ⊢; rcases hz with hz | hz <;> simp [hz]))
        have HTT : Hid (∀ z ∈ (g, Rw l2 f2 (PkC q A k c), t) :: L, z.2.2 ≠ 57) := fun z hz => (by rcases List.mem_cons.1 hz with rfl | hz; exact ht; exact hT z hz)
        have hbs := hKa.below.size
        have a1r := hK6.row; have a1f := hK6.free; have a1c := hK6.cell; have a1l := hK6.lt; have a1z := hK6.froz
        have a2r := hK6.tail.row; have a2f := hK6.tail.free; have a2c := hK6.tail.cell; have a2l := hK6.tail.lt; have a2z := hK6.tail.froz
        clear hKa
        have HX := Lib.hid hlen
        go_region_law (refine step_append_lies _ rfl _ _ 28 rfl w0.heap.size 57 i _ 2 24 Tryd.underlying28 hi hz0 hz1 hz2 rfl (by decide) (.slice A k c) k (flatS xs) rfl HOW.out _ 1 1 (flatS [(x, y)]) rfl rfl HNEW.out (flatS_one _) (by decide) (by unfold maxLen; omega) (by omega) hbs _ rfl ?_; intro g9 c9 w9 hown9 hgr9 _ _; have hK9 := HKB.out.grown HOW.out hgr9 HTT.out; have b1r := hK9.row; have b1f := hK9.free; have b1c := hK9.cell; have b1l := hK9.lt; have b1z := hK9.froz; have HO9 := Lib.hid hown9; clear hown9 hgr9)
        all_goals
          obtain ⟨M9, hM9, hR9⟩ := ownM_of HO9.out
          have hn9 : ∀ z ∈ M9 ++ L, z.1 ≠ g := by
            intro z hz
            rcases List.mem_append.1 hz with hz | hz
            · intro e
              have e1 := (hR9 z hz).2
              have e2 := (hK9.rows _ (List.mem_cons_self ..)).2
              rw [e] at e1
              rw [e1] at e2
              injection e2 with e2
              injection e2 with _ e3 _
              exact ht (e3.symm.trans (hM9.2 z hz))
            · exact hne z hz
          have hfin := ((hK9.add (M := M9) hR9).sub (K' := (g, Rw l2 f2 (PkC q A k c), t) :: (M9 ++ L)) (fun z hz => by simp only [List.mem_cons, List.mem_append] at hz ⊢; rcases hz with hz | hz | hz <;> simp [hz])).set hn9 (Rw l2 f2 (PkC q (some ⟨g9, 0, none⟩) (k + 1) c9))
          have hln : (xs ++ [(x, y)]).length = k + 1 := by rw [HK.out]; simp
          have hst9 : Hid ((suT 8 l2 f2).1 = F ∧ (xs ++ [(x, y)]) ++ (suT 8 l2 f2).2 = XS) := by
            have h9 := hst.out
            rw [HU.out] at h9
            show _ ∧ _
            refine ⟨h9.1, ?_⟩
            rw [← h9.2]
            simp
          have hms : leftN (w9.setRow g (Rw l2 f2 (PkC q (some ⟨g9, 0, none⟩) (k + 1) c9))) g < leftN wr g := by rw [hleft, leftN_of hfin.row]; exact hlt2
          have HM9 := Lib.hid hM9
          have HFIN := Lib.hid hfin
          have HMS := Lib.hid hms
          clear hM9 hR9 hfin hms b1r b1f b1c b1l b1z hK9 HO9 a1r a1f a1c a1l a1z a2r a2f a2c a2l a2z
          go_wp2_with fail
          go_roundw
          case rel => exact ⟨l2, f2, xs ++ [(x, y)], some ⟨g9, 0, none⟩, c9, M9, by rw [hln]; exact HFIN.out, by rw [hln, flatS_app]; exact HM9.out, hn9, hst9, by rw [hln]; omega⟩
          case measure => exact HMS.out
  · have hq8 : (q.ty == 8) = false := by rw [HQT.out]; rfl
    go_enter Tryd.func60, Tryd.ntmps60
    go_wp2_with fail
    refine (rWord h hne (by omega)).mono ?_
    rintro e w1 ⟨rfl, hK1⟩
    clear h
    have hK2 := hK1.set hne (Rw l0 f0 (PkC q none 0 0))
    rw [← HL0.out, ← HF0.out] at hK1
    have a1r := hK1.row; have a1f := hK1.free; have a1c := hK1.cell; have a1l := hK1.lt; have a1z := hK1.froz
    go_wp2_with fail
    have HW : Hid (w1.setRow g (Rw l0 f0 (PkC (p.s_id (woV l)) none 0 0)) = w1.setRow g (Rw l0 f0 (PkC q none 0 0))) := by show _ = _; rw [HQ.out]
    rw [HW.out]
    obtain ⟨w2, hw2⟩ : ∃ w2, w2 = w1.setRow g (Rw l0 f0 (PkC q none 0 0)) := ⟨_, rfl⟩
    rw [← hw2] at hK2 ⊢
    clear hw2 HW a1r a1f a1c a1l a1z hK1
    go_loopw [2] (fun _ wr => ∃ (li : List UInt8) (fi : Bool) (xs : List (List UInt8 × Int)) (A : Option Addr) (c : Nat) (M : List (Nat × Array Value × TypeId)), Kp w0 ((g, Rw li fi (PkC q A xs.length c), t) :: (M ++ L)) wr ∧ OwnM w0 M (.slice A xs.length c) xs.length (flatS xs) ∧ (∀ x ∈ M ++ L, x.1 ≠ g) ∧ Hid ((suT 10 li fi).1 = F ∧ xs ++ (suT 10 li fi).2 = XS) ∧ xs.length + li.length ≤ 1000000) (fun _ wr => leftN wr g)
    case atStart => exact ⟨l0, f0, [], none, 0, [], hK2, ownM_nil, hne, HST, by simpa using hl0l⟩
    case round =>
      clear hK2
      obtain ⟨li, fi, xs, A, c, M, hK, hOM, hnM, hst, hlen⟩ := hrel
      have hleft : leftN wr g = li.length := leftN_of hK.row
      obtain ⟨k, hk⟩ : ∃ k, k = xs.length := ⟨_, rfl⟩
      have HK := Lib.hid hk
      rw [← hk] at hK hOM hlen
      clear hk
      by_cases hli : li = []
      · subst hli
        have hst2 : F = fi ∧ xs = XS := by have := hst.out; rw [suT_nil] at this; exact ⟨this.1.symm, by simpa using this.2⟩
        obtain ⟨rfl, rfl⟩ := hst2
        have hown := hOM.1 wr (fun x hx => hK.rows x (by simp [hx]))
        rw [HK.out] at hown
        obtain ⟨A', c', hv, hS, hc', _⟩ := subs_of_own hown
        rw [← HK.out] at hown
        injection hv with e1 _ e3
        subst e1 e3
        have hfin := hK.sub (K' := (g, Rw [] F (PkC q A k c), t) :: L) (fun x hx => by simp only [List.mem_cons, List.mem_append] at hx ⊢; rcases hx with hx | hx <;> simp [hx])
        rw [HK.out] at hfin
        have HFIN := Lib.hid hfin
        have HSS := Lib.hid hS
        have HCC := Lib.hid hc'
        have HTS := Lib.hid (subT_own hown)
        rw [HK.out] at HTS
        clear hfin hS hc' hown hOM hleft
        have a1r := hK.row; have a1f := hK.free; have a1c := hK.cell; have a1l := hK.lt; have a1z := hK.froz
        go_wp2_with fail
        go_end0
        exact ⟨rfl, A, c, HFIN.out, HSS.out, HCC.out, HTS.out⟩
      · have hlb : (li == []) = false := by rw [beq_eq_false_iff_ne]; exact hli
        have HU := Lib.hid (suT_10 10 li fi hli (by decide))
        have hlt := gtL_lt li hli
        have hKK := hK
        have a1r := hKK.row; have a1f := hKK.free; have a1c := hKK.cell; have a1l := hKK.lt; have a1z := hKK.froz
        clear hKK hli hleft
        go_wp2_with fail
        refine (rText hK hnM (by omega)).mono ?_
        rintro e w3 ⟨rfl, hK3⟩
        clear a1r a1f a1c a1l a1z
        have hleft : leftN wr g = li.length := leftN_of hK.row
        clear hK
        obtain ⟨x, hx⟩ : ∃ x, x = gtV (getR li) := ⟨_, rfl⟩
        obtain ⟨l1, hl1⟩ : ∃ l1, l1 = gtL li (getR li) := ⟨_, rfl⟩
        obtain ⟨f1, hf1⟩ : ∃ f1, f1 = gtF fi (getR li) := ⟨_, rfl⟩
        rw [← hl1, ← hf1] at hK3
        rw [← hl1] at hlt
        rw [← hx, ← hl1, ← hf1] at HU
        rw [← hx]
        clear hx hl1 hf1
        have hgl := hK3.lt
        have hK4 := hK3.new (SbC x 0) 57
        have hn3 : ∀ y ∈ (g, Rw l1 f1 (PkC q A k c), t) :: (M ++ L), y.1 ≠ w3.heap.size := fun y hy => by have := (Array.getElem?_eq_some_iff.1 (hK3.rows y hy).2).1; omega
        have hn4 : ∀ y ∈ (w3.heap.size, SbC x 0, 57) :: (M ++ L), y.1 ≠ g := by
          intro y hy
          rcases List.mem_cons.1 hy with rfl | hy
          · show w3.heap.size ≠ g; omega
          · exact hnM y hy
        have a1r := hK3.row; have a1f := hK3.free; have a1c := hK3.cell; have a1l := hK3.lt; have a1z := hK3.froz
        have n1 : ¬ g = w3.heap.size := by omega
        have n2 : ¬ w3.heap.size = g := by omega
        go_upto_region 5 with fail
        obtain ⟨w5, hw5⟩ : ∃ w5, w5 = w3.alloc (.cells (SbC x 0) 57) := ⟨_, rfl⟩
        rw [← hw5] at hK4 ⊢
        have hK6 := hK4
        clear hw5 a1r a1f a1c a1l a1z hK3 hK4 hn4
        have hlt2 := hlt
        obtain ⟨l2, hl2⟩ : ∃ l2, l2 = l1 := ⟨_, rfl⟩
        obtain ⟨f2, hf2⟩ : ∃ f2, f2 = f1 := ⟨_, rfl⟩
        obtain ⟨y, hy⟩ : ∃ y : Int, y = 0 := ⟨_, rfl⟩
        rw [← hl2, ← hf2, ← hy] at hK6
        rw [← hl2] at hlt2
        rw [← hl2, ← hf2] at HU
        have HY := Lib.hid hy
        clear hy hl2 hf2
        obtain ⟨h5, hh5⟩ : ∃ h5, h5 = w3.heap.size := ⟨_, rfl⟩
        rw [← hh5] at hK6 n1 n2 hn3 ⊢
        clear hh5
        have hKa := hK6.drew.new (SbC x y) 57
        have HOW := Lib.hid (hOM.1 _ (fun z hz => hKa.rows z (by simp [hz])))
        have HNEW := Lib.hid (sub_news hKa)
        have HKB := Lib.hid (hKa.sub (K' := (g, Rw l2 f2 (PkC q A k c), t) :: L) (fun z hz => by simp only [List.mem_cons, List.mem_append] at hz ⊢; rcases hz with hz | hz <;> simp [hz]))
        have HTT : Hid (∀ z ∈ (g, Rw l2 f2 (PkC q A k c), t) :: L, z.2.2 ≠ 57) := fun z hz => (by rcases List.mem_cons.1 hz with rfl | hz; exact ht; exact hT z hz)
        have hbs := hKa.below.size
        have a1r := hK6.row; have a1f := hK6.free; have a1c := hK6.cell; have a1l := hK6.lt; have a1z := hK6.froz
        have a2r := hK6.tail.row; have a2f := hK6.tail.free; have a2c := hK6.tail.cell; have a2l := hK6.tail.lt; have a2z := hK6.tail.froz
        clear hKa
        have HX := Lib.hid hlen
        go_region_law (refine step_append_lies _ rfl _ _ 28 rfl w0.heap.size 57 i _ 2 24 Tryd.underlying28 hi hz0 hz1 hz2 rfl (by decide) (.slice A k c) k (flatS xs) rfl HOW.out _ 1 1 (flatS [(x, y)]) rfl rfl HNEW.out (flatS_one _) (by decide) (by unfold maxLen; omega) (by omega) hbs _ rfl ?_; intro g9 c9 w9 hown9 hgr9 _ _; have hK9 := HKB.out.grown HOW.out hgr9 HTT.out; have b1r := hK9.row; have b1f := hK9.free; have b1c := hK9.cell; have b1l := hK9.lt; have b1z := hK9.froz; have HO9 := Lib.hid hown9; clear hown9 hgr9)
        all_goals
          obtain ⟨M9, hM9, hR9⟩ := ownM_of HO9.out
          have hn9 : ∀ z ∈ M9 ++ L, z.1 ≠ g := by
            intro z hz
            rcases List.mem_append.1 hz with hz | hz
            · intro e
              have e1 := (hR9 z hz).2
              have e2 := (hK9.rows _ (List.mem_cons_self ..)).2
              rw [e] at e1
              rw [e1] at e2
              injection e2 with e2
              injection e2 with _ e3 _
              exact ht (e3.symm.trans (hM9.2 z hz))
            · exact hne z hz
          have hfin := ((hK9.add (M := M9) hR9).sub (K' := (g, Rw l2 f2 (PkC q A k c), t) :: (M9 ++ L)) (fun z hz => by simp only [List.mem_cons, List.mem_append] at hz ⊢; rcases hz with hz | hz | hz <;> simp [hz])).set hn9 (Rw l2 f2 (PkC q (some ⟨g9, 0, none⟩) (k + 1) c9))
          have hln : (xs ++ [(x, y)]).length = k + 1 := by rw [HK.out]; simp
          have hst9 : Hid ((suT 10 l2 f2).1 = F ∧ (xs ++ [(x, y)]) ++ (suT 10 l2 f2).2 = XS) := by
            have h9 := hst.out
            rw [HU.out] at h9
            show _ ∧ _
            refine ⟨h9.1, ?_⟩
            rw [← h9.2]
            simp; exact HY.out
          have hms : leftN (w9.setRow g (Rw l2 f2 (PkC q (some ⟨g9, 0, none⟩) (k + 1) c9))) g < leftN wr g := by rw [hleft, leftN_of hfin.row]; exact hlt2
          have HM9 := Lib.hid hM9
          have HFIN := Lib.hid hfin
          have HMS := Lib.hid hms
          clear hM9 hR9 hfin hms b1r b1f b1c b1l b1z hK9 HO9 a1r a1f a1c a1l a1z a2r a2f a2c a2l a2z
          go_wp2_with fail
          go_roundw
          case rel => exact ⟨l2, f2, xs ++ [(x, y)], some ⟨g9, 0, none⟩, c9, M9, by rw [hln]; exact HFIN.out, by rw [hln, flatS_app]; exact HM9.out, hn9, hst9, by rw [hln]; omega⟩
          case measure => exact HMS.out
end
end Go.Proofs.YtncgkkhpcgdcaaaDoor
