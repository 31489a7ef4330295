/-
  frame's statements: what Next tells till it tells no packet.
-/
import Derived.Test.YtncgkkhpcgdcaaaDoorFrNext
set_option linter.unusedSimpArgs false
set_option linter.unusedVariables false
namespace Go.Proofs.YtncgkkhpcgdcaaaDoor
open Go.RowKit
set_option maxRecDepth 100000
/-- How many bytes a framer has. -/
def leftF (w : World) (g : Nat) : Nat := match ((rowAt w g)[1]? : Option Value), ((rowAt w g)[2]? : Option Value) with
  | some (.slice _ n _), some (.int _ k) => n - k.toNat
  | _, _ => 0
section
variable {B : Nat} {w w' : World} {g : Nat} {o : Option Nat} {m : Int} {b : List UInt8} {f : Int}
theorem leftF_of (h : Fr B w g o m b f) : leftF w g = b.length := by
  obtain ⟨A, n, c, k, L, hS, rfl, _⟩ := h
  unfold leftF
  rw [rowAt_blk hS.heap, FrC_1, FrC_2]
  show n - (k : Int).toNat = _
  rw [List.length_drop, hS.len, Int.toNat_natCast]
/-- An append onto a row of what is told. -/
theorem Fr.grownT (h : Fr B w g o m b f) {v : Value} {n B2 : Nat} {L : List Value} (hgr : w.grownBy w' v.ownBlock) (hL : w.ownsRow B2 40 25 v n L) : Fr B w' g o m b f := by
  obtain ⟨A, n, c, k, L, hS, hr⟩ := h
  refine ⟨A, n, c, k, L, ⟨grown_keep hL hgr hS.heap (by decide), hS.base, ⟨hS.own.1, ?_⟩, hS.le, hS.lo, hS.hi⟩, hr⟩
  rcases hS.own.2 with h5 | ⟨d, cap, cur, e2, h5, h6, h7⟩
  · exact Or.inl h5
  · exact Or.inr ⟨d, cap, cur, e2, h5, grown_keep hL hgr h6 (by decide), h7⟩
theorem dn_zero (m : Int) (b : List UInt8) : dnR m b 0 = drR m b := by unfold dnR; rw [if_pos rfl]
theorem dn_err (m : Int) (b : List UInt8) (f : Int) (hf : f ≠ 0) : dnR m b f = ([((zPk, []), f)], b, f) := by unfold dnR; rw [if_neg hf]
/-- What drain answers. -/
def DRP (B : Nat) (w : World) (g : Nat) (o : Option Nat) (m : Int) (T : List TX) (b' : List UInt8) (f' : Int) (e : Ending) (w' : World) : Prop :=
  ∃ A c o', e = .returned (.slice A T.length c) ∧ OwnD w.heap.size w' (.slice A T.length c) T ∧ Fr B w' g o' m b' f' ∧ Fd w w' g o ∧ NewO w o o'
set_option maxHeartbeats 1000000 in
theorem drain_any (h : Fr B w g o m b f) (hB : B ≤ w.heap.size) (hG : ∀ w', Below B w w' → Glo w') (hb : b.length ≤ 900000000) (T : List TX) (b' : List UInt8) (f' : Int) (hD : dnR m b f = (T, b', f')) (hT : T.length ≤ 70000) :
    Calls Tryd.prog 11 #[.pointer (some ⟨g, 0, none⟩)] w fun e w' => DRP B w g o m T b' f' e w' := by
  have hm := h.lim
  have H := Lib.hid h
  have HG := Lib.hid hG
  have HD : Hid ([] ++ (dnR m b f).1 = T ∧ (dnR m b f).2 = (b', f')) := by show _ ∧ _; rw [hD]; exact ⟨rfl, rfl⟩
  clear h hG hD
  go_enter Tryd.func11, Tryd.ntmps11
  go_wp2_with fail
  go_loopw [3] (fun v wr => ∃ (Ti : List TX) (bi : List UInt8) (fi : Int) (oi : Option Nat), OwnD w.heap.size wr v Ti ∧ Fr B wr g oi m bi fi ∧ Fd w wr g o ∧ NewO w o oi ∧ bi.length ≤ 900000000 ∧ Hid (Ti ++ (dnR m bi fi).1 = T ∧ (dnR m bi fi).2 = (b', f'))) (fun _ wr => leftF wr g)
  case atStart => exact ⟨[], b, f, o, OwnD.nil (Nat.le_refl _), H.out, Fd.refl _ _ _, NewO.refl _ _, hb, HD⟩
  case round =>
    clear HD
    obtain ⟨Ti, bi, fi, oi, hO, hF, hfd, hno, hbi, hst⟩ := hrel
    have hleft : leftF wr g = bi.length := leftF_of hF
    have HO := Lib.hid hO
    have HF := Lib.hid hF
    have HFD := Lib.hid hfd
    have HNO := Lib.hid hno
    have HBel : Hid (Below B w wr) := HFD.out.below H.out.gB H.out.oB hB
    obtain ⟨A1, c1, rfl, _⟩ := hO.tds
    clear hO hF hfd hno
    have HGI := Lib.hid (fun w' (h : Below wr.heap.size wr w') => HG.out w' (HBel.out.trans (h.mono (Nat.le_trans hB HFD.out.size))))
    by_cases hf0 : fi = 0
    · subst hf0
      rcases dc_any m bi hm.2 with h1 | ⟨e9, h1, he9⟩ | ⟨p, xs, N, h1, h2, h3, _⟩
      · have HR : Hid (Ti = T ∧ bi = b' ∧ 0 = f') := by
          show _ ∧ _
          have := hst.out
          rw [dn_zero, dr_none h1, List.append_nil, Prod.mk.injEq] at this
          exact this
        obtain ⟨rfl, rfl, rfl⟩ := HR.out
        have H1 := Lib.hid h1
        clear hst h1
        go_wp2_with fail
        refine (frNextO HF.out HGI.out hbi zPk [] 0 H1.out (by omega) false rfl).mono ?_
        rintro e w1 ⟨⟨A2, c2, rfl, _, _, _⟩, o', hF1, hd1, hn1⟩
        rw [List.drop_zero] at hF1
        have hba := (Below.refl w1.heap.size w1).alloc (Nat.le_refl _) (.cells (PkC zPk A2 0 c2) 30)
        have HO1 := Lib.hid ((HO.out.keep (HF.out.keepD hd1)).more hba)
        have HF1 := Lib.hid (hF1.below hba)
        have HFD1 := Lib.hid ((HFD.out.trans hd1 HNO.out).more hba)
        have HN1 : Hid (NewO w o o') := HNO.out.trans HFD.out.size hn1
        clear hF1 hd1 hn1 hba
        go_wp2_with fail
        go_ret
        exact ⟨A1, c1, o', rfl, HO1.out, HF1.out, HFD1.out, HN1.out⟩
      · have HR : Hid (Ti ++ [((zPk, []), e9)] = T ∧ [] = b' ∧ e9 = f') := by
          show _ ∧ _
          have := hst.out
          rw [dn_zero, dr_err h1 (by omega), Prod.mk.injEq] at this
          exact this
        have H1 := Lib.hid h1
        clear hst h1
        go_wp2_with fail
        refine (frNextB HF.out HGI.out hbi e9 H1.out (by omega)).mono ?_
        rintro e w1 ⟨⟨A2, c2, rfl, _, _, _⟩, o', hF1, hd1, hn1⟩
        have hba := (Below.refl w1.heap.size w1).alloc (Nat.le_refl _) (.cells (PkC zPk A2 0 c2) 30)
        have hbb := hba.alloc (by simp) (.cells (TdC zPk none 0 0 e9) 40)
        have HO1 := Lib.hid ((HO.out.keep (HF.out.keepD hd1)).more hbb)
        have HF1 := Lib.hid (hF1.below hbb)
        have HFD1 := Lib.hid ((HFD.out.trans hd1 HNO.out).more hbb)
        have HN1 : Hid (NewO w o o') := HNO.out.trans HFD.out.size hn1
        have HT1 := Lib.hid (tds_one (w := (w1.alloc (.cells (PkC zPk A2 0 c2) 30)).alloc (.cells (TdC zPk none 0 0 e9) 40)) (xs := []) (rowAt_alloc_at _ _ _ rfl) (by simp) (Subs.nil _) (fun _ => rfl) (subT_nil _ _))
        have he9b : (e9 != 0) = true := by simp; omega
        have hl70 : (Ti.length : Int) + 1 ≤ 70000 := by
          have h9 := congrArg List.length HR.out.1
          simp only [List.length_append, List.length_singleton] at h9
          omega
        clear hba hbb hleft hF1 hd1 hn1
        go_wp2_with (first | refine wpList_buildE rfl _ _ rfl (TdC zPk none 0 0 e9) (by kernel_rfl) ?_ | (at_builtin; refine wpList_dapp rfl _ _ rfl rfl HO1.out (some ⟨w1.heap.size + 1, 0, none⟩) 1 1 [((zPk, []), e9)] rfl (by simpa using HT1.out) (fun e => by cases e) (by omega) (Or.inr ⟨_, _, rfl⟩) ?_))
        intro v2 w2 hO2 hgr L2 hL2
        have HF2 := Lib.hid (HF1.out.grownT hgr hL2)
        have HFD2 := Lib.hid (HFD1.out.grown hgr (fun d hd => Or.inr (hL2.lt d hd).1))
        have HO2 := Lib.hid hO2
        obtain ⟨A3, c3, rfl, _⟩ := hO2.tds
        clear hO2 hgr hL2 HT1 HO1 HF1 HFD1
        go_wp2_with fail
        go_ret
        obtain ⟨rfl, rfl, rfl⟩ := HR.out
        exact ⟨A3, c3, o', rfl, HO2.out, HF2.out, HFD2.out, HN1.out⟩
      · have HR : Hid ((Ti ++ [((p, xs), 0)]) ++ (dnR m (bi.drop N) 0).1 = T ∧ (dnR m (bi.drop N) 0).2 = (b', f')) := by
          show _ ∧ _
          have := hst.out
          rw [dn_zero, dr_some hm.2 h1 (by omega) h3] at this
          rw [dn_zero, List.append_assoc]
          exact this
        have H1 := Lib.hid h1
        clear hst h1
        go_wp2_with fail
        refine (frNextO HF.out HGI.out hbi p xs N H1.out h3 true (by simp; omega)).mono ?_
        rintro e w1 ⟨⟨A2, c2, rfl, hS2, hc2, ht2⟩, o', hF1, hd1, hn1⟩
        have hba := (Below.refl w1.heap.size w1).alloc (Nat.le_refl _) (.cells (PkC p A2 xs.length c2) 30)
        have hbb := hba.alloc (by simp) (.cells (TdC p A2 xs.length c2 0) 40)
        have HO1 := Lib.hid ((HO.out.keep (HF.out.keepD hd1)).more hbb)
        have HF1 := Lib.hid (hF1.below hbb)
        have HFD1 := Lib.hid ((HFD.out.trans hd1 HNO.out).more hbb)
        have HN1 : Hid (NewO w o o') := HNO.out.trans HFD.out.size hn1
        have HT1 := Lib.hid (tds_one (w := (w1.alloc (.cells (PkC p A2 xs.length c2) 30)).alloc (.cells (TdC p A2 xs.length c2 0) 40)) (rowAt_alloc_at _ _ _ rfl) (by simp) (hS2.below hbb) hc2 (subT_keep ht2 (.of_below hbb)))
        have HLT : Hid (leftF wr g = bi.length) := hleft
        have hl70 : (Ti.length : Int) + 1 ≤ 70000 := by
          have h9 := congrArg List.length HR.out.1
          simp only [List.length_append, List.length_singleton] at h9
          omega
        have HN : Hid (2 ≤ N ∧ N ≤ bi.length) := ⟨h2, h3⟩
        have hdl : (bi.drop N).length = bi.length - N := List.length_drop
        have HDL := Lib.hid hdl
        clear hF1 hd1 hn1 hba hbb hS2 hc2 ht2 h2 h3 hleft hdl
        go_wp2_with (first | refine wpList_buildE rfl _ _ rfl (TdC p A2 xs.length c2 0) (by kernel_rfl) ?_ | (at_builtin; refine wpList_dapp rfl _ _ rfl rfl HO1.out (some ⟨w1.heap.size + 1, 0, none⟩) 1 1 [((p, xs), 0)] rfl (by simpa using HT1.out) (fun e => by cases e) (by omega) (Or.inr ⟨_, _, rfl⟩) ?_))
        intro v2 w2 hO2 hgr L2 hL2
        have HF2 := Lib.hid (HF1.out.grownT hgr hL2)
        have HFD2 := Lib.hid (HFD1.out.grown hgr (fun d hd => Or.inr (hL2.lt d hd).1))
        have HO2 := Lib.hid hO2
        obtain ⟨A3, c3, rfl, _⟩ := hO2.tds
        rw [List.length_append, List.length_singleton] at HO2 ⊢
        have hlen : ((Ti.length + 1 : Nat) : Int) = (Ti.length : Int) + 1 := by omega
        have hd70 : decide ((70000 : Int) < ((Ti.length + 1 : Nat) : Int)) = false := by simp; omega
        obtain ⟨q, hq⟩ : ∃ q, q = Ti.length + 1 := ⟨_, rfl⟩
        rw [← hq] at HO2 hd70 ⊢
        clear hO2 hgr hL2 HT1 HO1 HF1 HFD1 hl70 hlen hq
        go_wp2_with fail
        go_roundw
        case rel => exact ⟨Ti ++ [((p, xs), 0)], bi.drop N, 0, o', HO2.out, HF2.out, HFD2.out, HN1.out, by have := HDL.out; omega, HR.out⟩
        case measure => rw [leftF_of HF2.out, HLT.out, HDL.out]; have := HN.out; omega
    · have HR : Hid (Ti ++ [((zPk, []), fi)] = T ∧ bi = b' ∧ fi = f') := by
          show _ ∧ _
          have := hst.out
          rw [dn_err _ _ _ hf0, Prod.mk.injEq] at this
          exact this
      clear hst
      go_wp2_with fail
      refine (frNextE HF.out hf0).mono ?_
      rintro e w1 ⟨⟨A2, c2, rfl, _, _, _⟩, hb1⟩
      have hba := (Below.refl w1.heap.size w1).alloc (Nat.le_refl _) (.cells (PkC zPk A2 0 c2) 30)
      have hbb := hba.alloc (by simp) (.cells (TdC zPk none 0 0 fi) 40)
      have hbc := below_more hb1 hbb
      have HO1 := Lib.hid (HO.out.more hbc)
      have HF1 := Lib.hid (HF.out.below hbc)
      have HFD1 := Lib.hid (HFD.out.more hbc)
      have HN1 := HNO
      clear hbc
      have HT1 := Lib.hid (tds_one (w := (w1.alloc (.cells (PkC zPk A2 0 c2) 30)).alloc (.cells (TdC zPk none 0 0 fi) 40)) (xs := []) (rowAt_alloc_at _ _ _ rfl) (by simp) (Subs.nil _) (fun _ => rfl) (subT_nil _ _))
      have he9b : (fi != 0) = true := by simp; omega
      have hl70 : (Ti.length : Int) + 1 ≤ 70000 := by
        have h9 := congrArg List.length HR.out.1
        simp only [List.length_append, List.length_singleton] at h9
        omega
      clear hba hbb hleft hb1
      go_wp2_with (first | refine wpList_buildE rfl _ _ rfl (TdC zPk none 0 0 fi) (by kernel_rfl) ?_ | (at_builtin; refine wpList_dapp rfl _ _ rfl rfl HO1.out (some ⟨w1.heap.size + 1, 0, none⟩) 1 1 [((zPk, []), fi)] rfl (by simpa using HT1.out) (fun e => by cases e) (by omega) (Or.inr ⟨_, _, rfl⟩) ?_))
      intro v2 w2 hO2 hgr L2 hL2
      have HF2 := Lib.hid (HF1.out.grownT hgr hL2)
      have HFD2 := Lib.hid (HFD1.out.grown hgr (fun d hd => Or.inr (hL2.lt d hd).1))
      have HO2 := Lib.hid hO2
      obtain ⟨A3, c3, rfl, _⟩ := hO2.tds
      clear hO2 hgr hL2 HT1 HO1 HF1 HFD1
      go_wp2_with fail
      go_ret
      obtain ⟨rfl, rfl, rfl⟩ := HR.out
      exact ⟨A3, c3, oi, rfl, HO2.out, HF2.out, HFD2.out, HN1.out⟩
end
end Go.Proofs.YtncgkkhpcgdcaaaDoor
