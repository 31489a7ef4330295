/-
  frame: how many bytes a packet has, and the packet.
-/
import Derived.Test.YtncgkkhpcgdcaaaDoorFrKit
import Derived.Test.YtncgkkhpcgdcaaaDoorFrOwn
import Derived.Test.YtncgkkhpcgdcaaaDoorRdDec3
set_option linter.unusedSimpArgs false
set_option linter.unusedVariables false
namespace Go.Proofs.YtncgkkhpcgdcaaaDoor
open Go.RowKit
set_option maxRecDepth 100000
theorem cutl_le (s : List UInt8) : (cutR s).1.length ≤ s.length := by
  by_cases h : (cutR s).2.2 = 0
  · obtain ⟨b, r, n, u, hs, _, _, _, _, _, _, hc, _⟩ := cut_ok h
    rw [hc, hs]
    show ((r.drop u.toNat).take n.toNat).length ≤ (b :: r).length
    rw [List.length_take, List.length_drop, List.length_cons]
    omega
  · rcases cut_er s with h1 | h1 | h1
    · exact absurd h1 h
    · rw [h1]; simp
    · rw [h1]; simp
section
variable {B : Nat} {w w' : World} {g : Nat} {m : Int} {A : Option Addr} {n c k : Nat} {L : List UInt8} {f : Int}
set_option maxHeartbeats 1000000 in
theorem frSize (h : FrS B w g m A n c k L f) (hn : n ≤ 2000000000) (b : List UInt8) (hb : L.drop k = b) (S E : Int) (hS : szR m b = (S, E)) : Calls Tryd.prog 22 #[.pointer (some ⟨g, 0, none⟩)] w fun e w' => e = .returned (.tuple #[.int .i64 S, .int .i64 E]) ∧ Below w.heap.size w w' := by
  have hbl : b.length = n - k := by rw [← hb, List.length_drop, h.len]
  obtain ⟨p, hp⟩ : ∃ p, p = n - k := ⟨_, rfl⟩
  have HP := Lib.hid hp
  have HB := Lib.hid hb
  have HM := Lib.hid h.lo
  have H := Lib.hid h
  have HS := Lib.hid hS
  rw [← hp] at hbl
  clear h hS hb hp
  go_enter Tryd.func22, Tryd.ntmps22
  go_wp2_with fail
  refine (frBuffer H.out hn).mono ?_
  rintro e w1 ⟨A', c', rfl, hby, hb1, hc1, hc2, hA⟩
  rw [HB.out] at hby
  rw [← HP.out] at hby ⊢
  have hpc : p ≤ c' := by have := HP.out; omega
  replace H := Lib.hid (H.out.below hb1)
  rcases b with _ | ⟨x, r⟩
  · have HS2 : Hid (S = 0 ∧ E = 0) := by show _ ∧ _; have := HS.out; unfold szR at this; simp at this; exact ⟨this.1.symm, this.2.symm⟩
    simp at hbl
    subst hbl
    clear hby
    go_wp2_with fail
    go_ret2
    obtain ⟨rfl, rfl⟩ := HS2.out
    exact ⟨rfl, hb1⟩
  · rw [List.length_cons] at hbl
    rcases hby.2.1 with rfl | ⟨blk, off, rfl, hc⟩
    · have := hby.2.2 rfl; omega
    have hx0 := hc 0 x rfl
    rw [Nat.add_zero] at hx0
    have hx9 := x.toNat_lt
    have p0 : 0 < p := by omega
    have p1 : (0 : Int) < (p : Int) := by omega
    have p2 : ((p : Int) == 0) = false := by simp; omega
    have HC := Lib.hid hc
    have HS2 := Lib.hid (HS.out)
    rw [sz_cons] at HS2
    clear hc hby hA hc1 hc2
    cases hf : firB (x.toNat : Int) with
    | false =>
      rw [hf] at HS2
      have HF := Lib.hid hf
      clear hf
      go_wp2_with fail
      refine (first_eq x.toNat false _ (by omega) (by omega) HF.out).mono ?_
      rintro e w2 ⟨rfl, rfl⟩
      go_wp2_with fail
      go_ret2
      have := HS2.out
      simp at this
      obtain ⟨rfl, rfl⟩ := this
      exact ⟨rfl, hb1⟩
    | true =>
      rw [hf, if_pos rfl] at HS2
      have HF := Lib.hid hf
      clear hf
      go_wp2_with fail
      refine (first_eq x.toNat true _ (by omega) (by omega) HF.out).mono ?_
      rintro e w2 ⟨rfl, rfl⟩
      obtain ⟨q4, hq4⟩ : ∃ q4, q4 = (r.take 4).length := ⟨_, rfl⟩
      obtain ⟨q5, hq5⟩ : ∃ q5, q5 = q4 + 1 := ⟨_, rfl⟩
      have hq4' := hq4
      rw [List.length_take] at hq4'
      have hmin : min (p : Int) 5 = (q5 : Int) := by omega
      have h54 : q5 - 1 = q4 := by omega
      have h5p : (q5 : Int) ≤ (c' : Int) := by omega
      have h51 : (1 : Int) ≤ (q5 : Int) := by omega
      have h50 : (0 : Int) ≤ (q5 : Int) := by omega
      have hcell4 : ∀ j y, (r.take 4)[j]? = some y → w2.cell? ⟨blk, off + 1 + j, none⟩ = some (.int .u8 (y.toNat : Int)) := by
        intro j y hy
        rw [List.getElem?_take] at hy
        split at hy
        · rw [show off + 1 + j = off + (j + 1) by omega]
          exact HC.out (j + 1) y hy
        · cases hy
      have hcv := fun cc => Bys.conv (A := some ⟨blk, off + 1, none⟩) (n := q4) (l := r.take 4) (w := w2) ⟨hq4.symm, Or.inr ⟨blk, off + 1, rfl, hcell4⟩, fun e => by cases e⟩ cc
      have hcv0 : c' = 1 → ∀ cc o, (convert 41 9 (.slice (some ⟨blk, o, none⟩) q4 cc)).run Tryd.prog w2 = .ok (.string ⟨(r.take 4).toArray⟩) w2 := fun hc1 cc o => by
        have hr0 : r = [] := List.eq_nil_of_length_eq_zero (by omega)
        exact Bys.conv (A := some ⟨blk, o, none⟩) ⟨hq4.symm, Or.inr ⟨blk, o, rfl, fun j y hy => by rw [hr0] at hy; simp at hy⟩, fun e => by cases e⟩ cc
      obtain ⟨v, u, er, hrd⟩ : ∃ v u er, rdR (r.take 4) = (v, u, er) := ⟨_, _, _, rfl⟩
      obtain ⟨R, hRR⟩ : ∃ R, R = r.take 4 := ⟨_, rfl⟩
      rw [← hRR] at hcv hcv0 hrd HS2 hq4
      have HRD := Lib.hid hrd
      have hRl : R.length ≤ 4 := by rw [hRR, List.length_take]; omega
      have hrg := rdR_range R
      rw [hrd] at hrg HS2
      have HT : Hid (szT m (v, u, er) = (S, E)) := HS2.out
      clear hrd HS2 hRR hq4 hq4' hcell4 HC HB hq5
      go_wp2_with fail
      all_goals
        refine (readLen_eq R v u er _ (by omega) HRD.out).mono ?_
        rintro e w3 ⟨rfl, rfl⟩
        clear hcv hcv0 hmin h54 h5p h51 h50
        have HTT := HT.out
        unfold szT at HTT
        dsimp only at HTT
        by_cases he2 : er = 2
        · subst he2
          simp only [if_true, Prod.mk.injEq] at HTT
          obtain ⟨rfl, rfl⟩ := HTT
          go_wp2_with fail
          go_ret2
          exact ⟨rfl, hb1⟩
        · rw [if_neg he2] at HTT
          have he2b : (er == 2) = false := by simpa using he2
          by_cases he0 : er = 0
          · subst he0
            rw [if_pos rfl] at HTT
            obtain ⟨r1, r2, r3, r4⟩ := hrg rfl
            obtain ⟨z1, hz1⟩ : ∃ z1 : Int, z1 = 1 + u := ⟨_, rfl⟩
            obtain ⟨z2, hz2⟩ : ∃ z2 : Int, z2 = z1 + v := ⟨_, rfl⟩
            rw [← hz1, ← hz2] at HTT
            have s1 : 1 + u = z1 := hz1.symm
            have s2 : z1 + v = z2 := hz2.symm
            have W1 : IntKind.i64.wrap z1 = z1 := IntWalk.i64_in _ (by omega)
            have W2 : IntKind.i64.wrap z2 = z2 := IntWalk.i64_in _ (by omega)
            obtain ⟨b1, b2, b3, b4, b5⟩ := blk_row H.out.heap
            clear hz1 hz2 hrg
            by_cases hlg : m < z2
            · rw [if_pos hlg] at HTT
              simp only [Prod.mk.injEq] at HTT
              obtain ⟨rfl, rfl⟩ := HTT
              have hd : decide (m < z2) = true := by simpa using hlg
              clear r1 r2 r3 r4
              go_wp2_with fail
              go_ret2
              exact ⟨rfl, hb1⟩
            · rw [if_neg hlg] at HTT
              simp only [Prod.mk.injEq] at HTT
              obtain ⟨rfl, rfl⟩ := HTT
              have hd : decide (m < z2) = false := by simpa using hlg
              clear r1 r2 r3 r4
              go_wp2_with fail
              go_ret2
              exact ⟨rfl, hb1⟩
          · rw [if_neg he0] at HTT
            simp only [Prod.mk.injEq] at HTT
            obtain ⟨rfl, rfl⟩ := HTT
            have he0b : (er != 0) = true := by simpa using he0
            go_wp2_with fail
            go_ret2
            exact ⟨rfl, hb1⟩
theorem Bys.take {w : World} {A : Option Addr} {n q : Nat} {l : List UInt8} (h : Bys w A n l) (hq : q ≤ n) : Bys w A q (l.take q) := by
  obtain ⟨h1, h2, h3⟩ := h
  refine ⟨by rw [List.length_take]; omega, ?_, fun e => by have := h3 e; omega⟩
  rcases h2 with h2 | ⟨b, off, e, hc⟩
  · exact Or.inl h2
  · refine Or.inr ⟨b, off, e, fun j x hx => ?_⟩
    rw [List.getElem?_take] at hx
    split at hx
    · exact hc j x hx
    · cases hx
set_option maxHeartbeats 2000000 in
theorem frDecode (h : FrS B w g m A n c k L f) (hG : ∀ w', Below w.heap.size w w' → Glo w') (hn : n ≤ 2000000000) (b : List UInt8) (hb : L.drop k = b) (P : Pk) (X : List (List UInt8 × Int)) (N E : Int) (hD : dcR m b = (P, X, N, E)) :
    Calls Tryd.prog 17 #[.pointer (some ⟨g, 0, none⟩)] w fun e w' => DEC w P X N E e w' := by
  have hbl : b.length = n - k := by rw [← hb, List.length_drop, h.len]
  obtain ⟨S, F, hS⟩ : ∃ S F, szR m b = (S, F) := ⟨_, _, rfl⟩
  have hbd := sz_bd m b (by have := h.lo; omega)
  have hlim := h.hi
  rw [hS] at hbd
  dsimp only at hbd
  have HD := Lib.hid hD
  have HS := Lib.hid hS
  have HB := Lib.hid hb
  have H := Lib.hid h
  have HG := Lib.hid hG
  have HW := Lib.hid (cut_whole (m := m) (b := b))
  rw [hS] at HW
  have hK0 := (Kp.nil w).new (PkC zPk none 0 0) 30
  clear h hb hD hS hG
  by_cases hz : F ≠ 0 ∨ S = 0 ∨ (b.length : Int) < S
  · have HR : Hid (P = zPk ∧ X = [] ∧ N = 0 ∧ E = F) := by
      show _ ∧ _
      have h1 := HD.out
      unfold dcR at h1
      rw [HS.out, if_pos hz] at h1
      simp only [Prod.mk.injEq] at h1
      obtain ⟨rfl, rfl, rfl, rfl⟩ := h1
      exact ⟨rfl, rfl, rfl, rfl⟩
    obtain ⟨rfl, rfl, rfl, rfl⟩ := HR.out
    clear HD HR HW
    by_cases hF : E = 0
    · subst hF
      by_cases hS0 : S = 0
      · subst hS0
        clear hz
        go_enter Tryd.func17, Tryd.ntmps17
        go_wp2_with fail
        refine (frSize (H.out.below hK0.below) hn b HB.out 0 0 HS.out).mono ?_
        rintro e w1 ⟨rfl, hb1⟩
        have hK1 := hK0.more hb1
        have a1r := hK1.row; have a1f := hK1.free; have a1c := hK1.cell; have a1l := hK1.lt; have a1z := hK1.froz
        clear hb1 hK0
        go_wp2_with fail
        refine ret_pk3 2 3 4 w.heap.size zPk none 0 0 (.int .i64 0) (.int .i64 0) rfl rfl (by go_simp <;> rfl) rfl rfl rfl ?_
        exact dec_no (hK1.set (by simp) _).below
      · have hS9 : (b.length : Int) < S := by omega
        have hSb : (S == 0) = false := by simpa using hS0
        have hd : decide (((n - k : Nat) : Int) < S) = true := by simp; omega
        clear hz
        go_enter Tryd.func17, Tryd.ntmps17
        go_wp2_with fail
        refine (frSize (H.out.below hK0.below) hn b HB.out S 0 HS.out).mono ?_
        rintro e w1 ⟨rfl, hb1⟩
        have hK1 := hK0.more hb1
        clear hb1 hK0
        go_wp2_with fail
        refine (frLeft (H.out.below hK1.below) hn).mono ?_
        rintro e w2 ⟨rfl, hb2⟩
        have hK2 := hK1.more hb2
        have a1r := hK2.row; have a1f := hK2.free; have a1c := hK2.cell; have a1l := hK2.lt; have a1z := hK2.froz
        clear hb2 hK1
        go_wp2_with fail
        refine ret_pk3 2 3 4 w.heap.size zPk none 0 0 (.int .i64 0) (.int .i64 0) rfl rfl (by go_simp <;> rfl) rfl rfl rfl ?_
        exact dec_no (hK2.set (by simp) _).below
    · have hEb : (E == 0) = false := by simpa using hF
      have hEn : (E != 0) = true := by simpa using hF
      clear hz
      go_enter Tryd.func17, Tryd.ntmps17
      go_wp2_with fail
      refine (frSize (H.out.below hK0.below) hn b HB.out S E HS.out).mono ?_
      rintro e w1 ⟨rfl, hb1⟩
      have hK1 := hK0.more hb1
      have a1r := hK1.row; have a1f := hK1.free; have a1c := hK1.cell; have a1l := hK1.lt; have a1z := hK1.froz
      clear hb1 hK0
      go_wp2_with fail
      refine ret_pk3 2 3 4 w.heap.size zPk none 0 0 (.int .i64 0) (.int .i64 E) rfl rfl (by go_simp <;> rfl) rfl rfl rfl ?_
      exact dec_no (hK1.set (by simp) _).below
  · have h2 := HW.out
    dsimp only at h2
    have hF0 : F = 0 := by by_cases e : F = 0; exact e; exact absurd (Or.inl e) hz
    have hS0 : S ≠ 0 := fun e => hz (Or.inr (Or.inl e))
    have hSl : S ≤ b.length := by by_cases e : S ≤ b.length; exact e; exact absurd (Or.inr (Or.inr (by omega))) hz
    have h3 : decR (b.take S.toNat) = (P, X, N, E) := by
      have h1 := HD.out
      unfold dcR at h1
      rw [HS.out, if_neg hz] at h1
      exact h1
    subst hF0
    clear hz HD HW h2
    obtain ⟨s, rfl⟩ : ∃ s : Nat, S = s := ⟨S.toNat, by omega⟩
    rw [Int.toNat_natCast] at h3
    have HDD := Lib.hid h3
    have hSb : ((s : Int) == 0) = false := by simpa using hS0
    have hd : decide (((n - k : Nat) : Int) < (s : Int)) = false := by simp; omega
    have HTL : Hid ((b.take s).length ≤ 65536) := by show _ ≤ _; rw [List.length_take]; omega
    have s0 : (0 : Int) ≤ (s : Int) := by omega
    have hsp : s ≤ n - k := by omega
    clear h3 hS0 hSl
    go_enter Tryd.func17, Tryd.ntmps17
    go_wp2_with fail
    refine (frSize (H.out.below hK0.below) hn b HB.out s 0 HS.out).mono ?_
    rintro e w1 ⟨rfl, hb1⟩
    have hK1 := hK0.more hb1
    clear hb1 hK0
    go_wp2_with fail
    refine (frLeft (H.out.below hK1.below) hn).mono ?_
    rintro e w2 ⟨rfl, hb2⟩
    have hK2 := hK1.more hb2
    clear hb2 hK1
    go_wp2_with fail
    refine (frBuffer (H.out.below hK2.below) hn).mono ?_
    rintro e w3 ⟨A', c', rfl, hby, hb3, hc1, hc2, hA⟩
    have hK3 := hK2.more hb3
    rw [HB.out] at hby
    have hsc : (s : Int) ≤ (c' : Int) := by omega
    have hcv := (hby.take hsp).conv
    clear hb3 hK2 hby
    go_wp2_with fail
    refine (decode_any (b.take s) _ (HG.out _ hK3.below) (by have := HTL.out; omega) (Nat.le_trans (cutl_le _) (by have := HTL.out; omega))).mono ?_
    rw [HDD.out]
    rintro e w4 ⟨A2, c2, rfl, hb4, hS2, hcc2, hst2⟩
    have hK4 := hK3.more hb4
    have HROW := Lib.hid (hK4.rows (w.heap.size, PkC zPk none 0 0, 30) (by simp)).2
    have HSU := Lib.hid hS2
    have HST := Lib.hid hst2
    have HCC := Lib.hid hcc2
    clear hK3 hb4 hS2 hcc2 hst2 hcv
    have a1r := hK4.row; have a1f := hK4.free; have a1c := hK4.cell; have a1l := hK4.lt; have a1z := hK4.froz
    go_wp2_with fail
    refine ret_pk3 2 3 4 w.heap.size P A2 X.length c2 (.int .i64 N) (.int .i64 E) rfl rfl (by go_simp <;> rfl) rfl rfl rfl ?_
    exact dec_mk (hK4.set (by simp) _).below (subs_setT HSU.out HST.out HROW.out) HCC.out (subT_set HST.out HROW.out)
end
end Go.Proofs.YtncgkkhpcgdcaaaDoor
