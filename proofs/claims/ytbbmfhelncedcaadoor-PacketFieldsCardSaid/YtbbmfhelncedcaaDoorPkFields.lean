/-
  PacketFields.
-/
import Derived.Test.YtbbmfhelncedcaaDoorPkN
import Derived.Test.YtbbmfhelncedcaaDoorPkO
import Derived.Deep.Cut
import Derived.Deep.DeepCutAuto
set_option linter.unusedSimpArgs false
set_option linter.unusedVariables false
namespace Go.Proofs.YtbbmfhelncedcaaDoor
open Go.RowKit
namespace lawPacketFields
theorem fld_of (f : Int) (h : 0 ≤ f ∧ f ≤ 255) : ∃ K : Nat, wrap64 (f.tmod 18) = (K : Int) ∧ K < 18 := by
  refine ⟨(f % 18).toNat, ?_, by omega⟩
  rw [Int.tmod_eq_emod_of_nonneg h.1, IntWalk.wrap64_in _ (by omega)]
  omega
theorem let_at : ∀ (T : Nat) (h : T < (ByteArray.mk #[48, 49, 50, 51, 52, 53, 54, 55, 56, 57, 97, 98, 99, 100, 101, 102]).size), (((ByteArray.mk #[48, 49, 50, 51, 52, 53, 54, 55, 56, 57, 97, 98, 99, 100, 101, 102])[T]'h).toNat : Int) = letF T
  | 0, _ => by rfl
  | 1, _ => by rfl
  | 2, _ => by rfl
  | 3, _ => by rfl
  | 4, _ => by rfl
  | 5, _ => by rfl
  | 6, _ => by rfl
  | 7, _ => by rfl
  | 8, _ => by rfl
  | 9, _ => by rfl
  | 10, _ => by rfl
  | 11, _ => by rfl
  | 12, _ => by rfl
  | 13, _ => by rfl
  | 14, _ => by rfl
  | 15, _ => by rfl
  | n + 16, h => by exact absurd (show n + 16 < 16 from h) (by omega)
/-- Is the letter among them? -/
def anyB (L : UInt8) (l : List UInt8) : Bool := l.any fun b => (b.toNat : Int) == (L.toNat : Int)
theorem anyB_take (L : UInt8) (l : List UInt8) (k : Nat) (h : k < l.length) : anyB L (l.drop k) = (((l[k].toNat : Int) == (L.toNat : Int)) || anyB L (l.drop (k + 1))) := by
  rw [List.drop_eq_getElem_cons h]; rfl
theorem Kp_grown {w wr w' : World} {L : List (Nat × Array Value × TypeId)} {row : Option Nat} (h : Kp w L wr) (hg : wr.grownBy w' row) (hne : ∀ x ∈ L, some x.1 ≠ row) (hr : ∀ k, row = some k → w.heap.size ≤ k) : Kp w L w' :=
  ⟨fun x hx => ⟨(h.rows x hx).1, (hg.block x.1 (Array.getElem?_eq_some_iff.1 (h.rows x hx).2).1 (hne x hx)).trans (h.rows x hx).2⟩, h.below.grown hg h.below.size hr⟩
theorem OwnS.alloc {B : Nat} {w0 wr : World} {v : Value} {xs : List (List UInt8 × Int)} (h : OwnS B w0 wr v xs) (o : Obj) : OwnS B w0 (wr.alloc o) v xs :=
  ⟨World.ownsRow.alloc h.1 o, h.2.1.alloc h.2.2 _, by rw [World.size_alloc]; exact Nat.le_succ_of_le h.2.2⟩
theorem more_eq (p : Pk) (A : Option Addr) (n c : Nat) (f : Nat) (xs : List (List UInt8 × Int)) (S : List UInt8) (w : World) (h : Fit p xs) (h1 : totB p xs ≤ 10000) (hf : f < 18) (hS : moreS f = S) :
    Calls Tryd.prog 20 #[.agg (PkC p A n c), .int .i64 f] w fun e w' => e = .returned (.tuple #[.agg (PkC (moreP p f) A n c), .string ⟨S.toArray⟩]) ∧ Below w.heap.size w w' := hS ▸ more_any p A n c f xs w h h1 hf
set_option maxRecDepth 100000 in
set_option maxHeartbeats 4000000 in
theorem walk (w : World) (hG : Glo w) (p : Pk) (A : Option Addr) (n c : Nat) (xs : List (List UInt8 × Int)) (hs : Subs w A n xs) (hc : A = none → c = 0) (hp : Came p xs) (f : Int) (wf : (Lit.int .u8 f).wf = true) :
    Calls Tryd.prog 6 #[.agg (PkC p A n c), .int .u8 f] w fun e w' => e = .returned (.bool true) ∧ Below w.heap.size w w' := by
  have hK0 := (Kp.nil w).new (PkC p A n c) 27
  have HG := Lib.hid hG
  have HS := Lib.hid hs
  have HC := Lib.hid hp
  have HA := Lib.hid hc
  have hxl := Lib.hid hs.len
  have hfb := Lib.hid (u8_bd f wf)
  clear hG hs hp hc wf
  go_enter Tryd.func6, Tryd.ntmps6
  go_wp2_with fail
  refine (great_any p A n c xs _ (HS.out.below hK0.below) HC.out).mono ?_
  rintro e w6 ⟨g, rfl, hgr, hb6⟩
  have hP := hK0.more hb6
  clear hb6 hK0
  have p1r := hP.row; have p1f := hP.free; have p1c := hP.cell; have p1l := hP.lt; have p1z := hP.froz
  cases g with
  | true =>
    clear hgr
    go_wp2_with fail
    refine (awake_any _ (HG.out.below hP.below)).mono ?_
    rintro e w7 ⟨rfl, hb7⟩
    go_wp2_with fail
    go_ret
    exact ⟨rfl, below_more hP.below hb7⟩
  | false =>
    have hg1 := Lib.hid (hgr rfl)
    have HF := Lib.hid (fit_came HC.out hg1.out.1 hg1.out.2)
    clear hgr
    have hn : n ≤ 100 := by have h1 := hg1.out.2; have h2 := hxl.out; omega
    obtain ⟨v, hv⟩ : ∃ v, restN p xs = v := ⟨_, rfl⟩
    have HV := Lib.hid hv
    clear hv
    go_wp2_with fail
    refine (rest_eq p A n c xs v _ (HG.out.below hP.below) (HS.out.below hP.below) HF.out HV.out).mono ?_
    rintro e w7 ⟨rfl, hb7⟩
    have hQ := hP.more hb7
    clear p1r p1f p1c p1z p1l hb7 hP
    have q1r := hQ.row; have q1f := hQ.free; have q1c := hQ.cell; have q1l := hQ.lt; have q1z := hQ.froz
    by_cases hv0 : v < 0
    · have hd1 : decide (v < 0) = true := by simpa using hv0
      obtain rfl := restN_neg HV.out hv0
      have HR : Hid (decide (0 ≤ restN p xs) = false) := by show _ = _; rw [HV.out]; rfl
      clear hv0 hd1
      go_wp2_with fail
      refine (right_eq p A n c xs false _ (HG.out.below hQ.below) (HS.out.below hQ.below) HF.out HR.out).mono ?_
      rintro e w8 ⟨rfl, hb8⟩
      have hQ8 := hQ.more hb8
      go_wp2_with fail
      refine (awake_any _ (HG.out.below hQ8.below)).mono ?_
      rintro e w20 ⟨rfl, hb20⟩
      go_wp2_with fail
      go_ret
      exact ⟨rfl, below_more hQ8.below hb20⟩
    · have hv1 : 0 ≤ v := by omega
      have hd1 : decide (v < 0) = false := by simpa using hv1
      obtain ⟨K, hk, hK18⟩ : ∃ K : Nat, wrap64 (f.tmod 18) = (K : Int) ∧ K < 18 := fld_of f hfb.out
      obtain ⟨T, hT, hT1, hT2⟩ : ∃ T : Nat, p.ty = (T : Int) ∧ 1 ≤ T ∧ T ≤ 14 := by
        have := ty_of (zero_of HV.out hv1).2.1
        exact ⟨p.ty.toNat, by omega, by omega, by omega⟩
      have htm : (T : Int).tmod 16 = (T : Int) := by rw [Int.tmod_eq_emod_of_nonneg (by omega)]; omega
      obtain ⟨S, hS⟩ : ∃ S, moreS K = S := ⟨_, rfl⟩
      have HT := Lib.hid hT
      have HSS := Lib.hid hS
      have hSl : S.length ≤ 9 := by rw [← hS]; exact moreS_len K
      clear hT hS
      go_wp2_with fail
      refine (more_eq p A n c K xs S _ HF.out hg1.out.1 hK18 HSS.out).mono ?_
      rintro e w8 ⟨rfl, hb8⟩
      have hR := hQ.more hb8
      have n1 := Nat.ne_of_lt (Nat.lt_of_lt_of_le q1l hb8.size)
      clear q1r q1f q1c q1z q1l hb8 hQ hk
      have q1r := hR.row; have q1f := hR.free; have q1c := hR.cell; have q1l := hR.lt; have q1z := hR.froz
      obtain ⟨q2, hq2⟩ : ∃ q2, moreP p K = q2 := ⟨_, rfl⟩
      have HQ2 := Lib.hid hq2
      rw [hq2]
      clear hq2
      go_upto_region 7 with fail
      obtain ⟨w9, hw9⟩ : ∃ w9 : World, w9 = w8.alloc (.cells (PkC q2 A n c) 27) := ⟨_, rfl⟩
      have hK9 := hR.new (PkC q2 A n c) 27
      rw [← hw9] at hK9 ⊢
      generalize w8.heap.size = h at *
      clear hw9 q1r q1f q1c q1z q1l hR
      have a1r := hK9.row; have a1f := hK9.free; have a1c := hK9.cell; have a1l := hK9.lt; have a1z := hK9.froz
      have a2r := hK9.tail.row; have a2f := hK9.tail.free; have a2c := hK9.tail.cell; have a2l := hK9.tail.lt; have a2z := hK9.tail.froz
      have hT := HT.out
      go_wp2_with fail
      clear hT htm
      generalize hL : (ByteArray.mk #[48, 49, 50, 51, 52, 53, 54, 55, 56, 57, 97, 98, 99, 100, 101, 102])[T]'(by show T < 16; omega) = L
      have hLF : Hid (anyB L S = itsB p.ty K) := by
        have := let_at T (by show T < 16; omega)
        rw [hL] at this
        show _ = _
        unfold anyB itsB
        rw [HSS.out, HT.out, this]
      clear hL
      go_loop [9, 10] (fun t i => ∃ (k : Nat) (r : Bool), i = .int .i64 k ∧ k ≤ S.length ∧ t = .bool r ∧ Hid (anyB L S = (r || anyB L (S.drop k)))) (fun _ i => S.length - (intOf i).toNat)
      case atStart => exact ⟨0, false, rfl, by omega, rfl, by simp [Hid]⟩
      case round =>
        obtain ⟨k, r, rfl, hkl, rfl, hc1⟩ := hrel
        by_cases hlt : k < S.length
        · have hlt2 : (k : Int) < (S.length : Int) := by omega
          have hx := byte_at S k hlt
          cases r with
          | true =>
            have HC1 : Hid (anyB L S = (true || anyB L (S.drop (k + 1)))) := by show _ = _; rw [hc1.out]; rfl
            go_wp2_with fail
            go_round
            case rel => exact ⟨k + 1, true, by go_num, by omega, rfl, HC1⟩
            case measure => simp [intOf]; omega
          | false =>
            obtain ⟨r1, hr1⟩ : ∃ r1, ((S[k].toNat : Int) == (L.toNat : Int)) = r1 := ⟨_, rfl⟩
            have HC1 : Hid (anyB L S = (r1 || anyB L (S.drop (k + 1)))) := by
              have h1 := anyB_take L S k hlt
              show _ = _
              rw [hc1.out, h1, hr1, Bool.false_or]
            go_wp2_with fail
            go_round
            case rel => exact ⟨k + 1, r1, by go_num, by omega, rfl, HC1⟩
            case measure => simp [intOf]; omega
        · have hge : ¬ (k : Int) < (S.length : Int) := by omega
          have hke : S.drop k = [] := List.drop_eq_nil_of_le (by omega)
          have HI : Hid (itsB p.ty K = r) := by show _ = _; rw [← hLF.out, hc1.out, hke]; simp [anyB]
          have HNE : Hid ((eqPk p q2 && xs == xs) = false) := by show _ = _; rw [← HQ2.out, more_ne K hK18 HC.out]; rfl
          have HF2 : Hid (Fit q2 xs) := by show Fit _ _; rw [← HQ2.out]; exact more_fit K hK18 HF.out hg1.out.1
          clear hke hc1 hLF
          go_upto_region 13 with fail
          go_cut [66] (fun s66 wx => s66 = .bool false ∧ Kp w [(h, PkC q2 A n c, 27), (w.heap.size, PkC p A n c, 27)] wx)
          case first =>
            cases r with
            | true =>
              go_wp2_with fail
              refine (same_eq p q2 _ _ n _ n _ xs xs false _ (HS.out.below hK9.below) (HS.out.below hK9.below) (by omega) HNE.out).mono ?_
              rintro e w10 ⟨rfl, hb10⟩
              have hK10 := hK9.more hb10
              go_wp2_with fail
              go_meet
              case rel => exact ⟨rfl, hK10⟩
            | false =>
              have HR2 : Hid (decide (0 ≤ restN q2 xs) = false) := by show _ = _; rw [← HQ2.out, more_neg K hK18 HV.out hv1 HI.out]; rfl
              go_wp2_with fail
              refine (right_eq q2 A n c xs false _ (HG.out.below hK9.below) (HS.out.below hK9.below) HF2.out HR2.out).mono ?_
              rintro e w10 ⟨rfl, hb10⟩
              have hK10 := hK9.more hb10
              clear a1r a1f a1c a1z a1l a2r a2f a2c a2z a2l
              have a1r := hK10.row; have a1f := hK10.free; have a1c := hK10.cell; have a1l := hK10.lt; have a1z := hK10.froz
              have a2r := hK10.tail.row; have a2f := hK10.tail.free; have a2c := hK10.tail.cell; have a2l := hK10.tail.lt; have a2z := hK10.tail.froz
              go_wp2_with fail
              refine (same_eq p q2 _ _ n _ n _ xs xs false _ (HS.out.below hK10.below) (HS.out.below hK10.below) (by omega) HNE.out).mono ?_
              rintro e w11 ⟨rfl, hb11⟩
              have hK11 := hK10.more hb11
              go_wp2_with fail
              go_meet
              case rel => exact ⟨rfl, hK11⟩
          case rest =>
            clear a1r a1f a1c a1z a1l a2r a2f a2c a2z a2l hK9
            obtain ⟨rfl, hKc⟩ := hcut
            have a1r := hKc.row; have a1f := hKc.free; have a1c := hKc.cell; have a1l := hKc.lt; have a1z := hKc.froz
            have a2r := hKc.tail.row; have a2f := hKc.tail.free; have a2c := hKc.tail.cell; have a2l := hKc.tail.lt; have a2z := hKc.tail.froz
            go_wp2_with fail
            refine (copyOwn_any p A n c xs _ (HS.out.below hKc.below) HA.out (by omega)).mono ?_
            rintro e w12 ⟨A1, c1, rfl, hb12, hN12⟩
            have HN := Lib.hid hN12
            have hK12 := hKc.more hb12
            have hs12 := hb12.size
            have hwc1 : w.heap.size < wc.heap.size := a2l
            have hwc2 : h < wc.heap.size := a1l
            clear a1r a1f a1c a1z a1l a2r a2f a2c a2z a2l hKc hN12
            have a1r := hK12.row; have a1f := hK12.free; have a1c := hK12.cell; have a1l := hK12.lt; have a1z := hK12.froz
            have a2r := hK12.tail.row; have a2f := hK12.tail.free; have a2c := hK12.tail.cell; have a2l := hK12.tail.lt; have a2z := hK12.tail.froz
            go_upto_region 16 with fail
            obtain ⟨w13, hw13⟩ : ∃ w13 : World, w13 = w12.alloc (.cells (PkC p A1 n c1) 27) := ⟨_, rfl⟩
            have hK13 := hK12.new (PkC p A1 n c1) 27
            have hO13 : OwnS wc.heap.size wc (w12.alloc (.cells (PkC p A1 n c1) 27)) (.slice A1 n c1) xs := by
              refine ⟨?_, hb12.alloc hs12 _, by simp; omega⟩
              have := World.ownsRow.alloc HN.out (.cells (PkC p A1 n c1) 27)
              rw [hxl.out]
              exact this
            have HO13 := Lib.hid hO13
            have hN12l : Hid (∀ k, (Value.slice A1 n c1).ownBlock = some k → wc.heap.size ≤ k ∧ k < w12.heap.size) := World.ownsRow.lt HN.out
            rw [← hw13] at hK13 HO13 ⊢
            clear hw13 hO13 a1r a1f a1c a1z a1l a2r a2f a2c a2z a2l hb12 HN hK12
            generalize w12.heap.size = h3 at *
            have a1r := hK13.row; have a1f := hK13.free; have a1c := hK13.cell; have a1l := hK13.lt; have a1z := hK13.froz
            have a2r := hK13.tail.row; have a2f := hK13.tail.free; have a2c := hK13.tail.cell; have a2l := hK13.tail.lt; have a2z := hK13.tail.froz
            have a3r := hK13.tail.tail.row; have a3f := hK13.tail.tail.free; have a3c := hK13.tail.tail.cell; have a3l := hK13.tail.tail.lt; have a3z := hK13.tail.tail.froz
            obtain ⟨m, hm⟩ : ∃ m, (xs ++ [subX]).length = m := ⟨_, rfl⟩
            have HM := Lib.hid hm
            clear hm
            go_wp2_with (at_builtin; go_loud (refine wpList_sapp rfl _ _ rfl rfl (OwnS.alloc HO13.out _) (some ⟨w13.heap.size, 0, none⟩) 1 1 [subX] rfl (subs_one (rowAt_alloc_at _ _ _ rfl) (by simp)) (fun e => by cases e) (by have := hxl.out; omega) ?_); go_must (intro v1 w1 hown hgr; have hK14 := Kp_grown (hK13.more ((Below.refl _ _).alloc (Nat.le_refl _) _)) hgr (by intro x hx e; have hq := hN12l.out x.1 e.symm; simp at hx; rcases hx with rfl | rfl | rfl <;> ((simp at hq) <;> omega)) (by intro k e; have hq := hN12l.out k e; omega); clear hgr; have HOWN : Hid (OwnS wc.heap.size wc w1 v1 (xs ++ [subX])) := hown; obtain ⟨A2, c2, rfl, hS2, hc2, hlo2⟩ := subs_of_own hown.1; rw [HM.out] at hS2 ⊢; have HS2 := Lib.hid hS2; clear hown hS2 hc2 hlo2 hK13 a1r a1f a1c a1z a1l a2r a2f a2c a2z a2l a3r a3f a3c a3z a3l; have p1r := hK14.row; have p1f := hK14.free; have p1c := hK14.cell; have p1z := hK14.froz; have p1l := hK14.lt; have p2r := hK14.tail.row; have p2f := hK14.tail.free; have p2c := hK14.tail.cell; have p2z := hK14.tail.froz; have p2l := hK14.tail.lt; have p3r := hK14.tail.tail.row; have p3f := hK14.tail.tail.free; have p3c := hK14.tail.tail.cell; have p3z := hK14.tail.tail.froz; have p3l := hK14.tail.tail.lt))
            have hne2 : ∀ b o, A2 = some ⟨b, o, none⟩ → b ≠ h3 := by
              intro b o e hbh
              have hq1 := (hK14.rows (h3, PkC p A1 n c1, 27) (by simp)).2
              rcases (show NewRow w1 wc.heap.size A2 _ c2 (xs ++ [subX]) from HOWN.out.1).blk with ⟨e1, _⟩ | ⟨g, cur, e1, _, hq2, _⟩
              · rw [e1] at e; cases e
              · rw [e1] at e
                cases e
                subst hbh
                rw [hq1] at hq2
                simp at hq2
            have hK15 := hK14.set (by intro x hx; simp at hx; rcases hx with rfl | rfl <;> (simp; omega)) (PkC p A2 m c2)
            have HS15 : Hid (Subs (w1.setRow h3 (PkC p A2 m c2)) A2 m (xs ++ [subX])) := Subs.set HS2.out hne2 _
            have HF5 := Lib.hid (app_fit HF.out hg1.out.1 hg1.out.2)
            clear hne2 p1r p1f p1c p1z p1l p2r p2f p2c p2z p2l p3r p3f p3c p3z p3l hK14
            by_cases h8 : p.ty = 8
            · have hle := sub_le (Or.inl h8) HV.out hv1 HF.out
              have R1 := Lib.hid (app8 h8 HV.out hv1 (by omega))
              have hw : wrap64 (v + 6) = v + 6 := IntWalk.wrap64_in _ (by omega)
              refine (rest_eq p A2 m c2 (xs ++ [subX]) (v + 6) _ (HG.out.below hK15.below) HS15.out HF5.out R1.out).mono ?_
              rintro e w17 ⟨rfl, hb17⟩
              have hK17 := hK15.more hb17
              clear hb17
              have a1r := hK17.row; have a1f := hK17.free; have a1c := hK17.cell; have a1l := hK17.lt; have a1z := hK17.froz
              have a2r := hK17.tail.row; have a2f := hK17.tail.free; have a2c := hK17.tail.cell; have a2l := hK17.tail.lt; have a2z := hK17.tail.froz
              have a3r := hK17.tail.tail.row; have a3f := hK17.tail.tail.free; have a3c := hK17.tail.tail.cell; have a3l := hK17.tail.tail.lt; have a3z := hK17.tail.tail.froz
              go_wp2_with fail
              refine (awake_any _ (HG.out.below hK17.below)).mono ?_
              rintro e w18 ⟨rfl, hb18⟩
              go_wp2_with fail
              go_ret
              exact ⟨rfl, below_more hK17.below hb18⟩
            · have h8' : (p.ty == 8) = false := by simpa using h8
              by_cases h10 : p.ty = 10
              · have hle := sub_le (Or.inr h10) HV.out hv1 HF.out
                have R1 := Lib.hid (app10 h10 HV.out hv1 (by omega))
                have hw : wrap64 (v + 5) = v + 5 := IntWalk.wrap64_in _ (by omega)
                refine (rest_eq p A2 m c2 (xs ++ [subX]) (v + 5) _ (HG.out.below hK15.below) HS15.out HF5.out R1.out).mono ?_
                rintro e w17 ⟨rfl, hb17⟩
                have hK17 := hK15.more hb17
                clear hb17
                have a1r := hK17.row; have a1f := hK17.free; have a1c := hK17.cell; have a1l := hK17.lt; have a1z := hK17.froz
                have a2r := hK17.tail.row; have a2f := hK17.tail.free; have a2c := hK17.tail.cell; have a2l := hK17.tail.lt; have a2z := hK17.tail.froz
                have a3r := hK17.tail.tail.row; have a3f := hK17.tail.tail.free; have a3c := hK17.tail.tail.cell; have a3l := hK17.tail.tail.lt; have a3z := hK17.tail.tail.froz
                go_wp2_with fail
                refine (awake_any _ (HG.out.below hK17.below)).mono ?_
                rintro e w18 ⟨rfl, hb18⟩
                go_wp2_with fail
                go_ret
                exact ⟨rfl, below_more hK17.below hb18⟩
              · have h10' : (p.ty == 10) = false := by simpa using h10
                have R1 := Lib.hid (appNo (xs := xs) h8 h10)
                refine (rest_eq p A2 m c2 (xs ++ [subX]) (-1) _ (HG.out.below hK15.below) HS15.out HF5.out R1.out).mono ?_
                rintro e w17 ⟨rfl, hb17⟩
                have hK17 := hK15.more hb17
                clear hb17
                have a1r := hK17.row; have a1f := hK17.free; have a1c := hK17.cell; have a1l := hK17.lt; have a1z := hK17.froz
                have a2r := hK17.tail.row; have a2f := hK17.tail.free; have a2c := hK17.tail.cell; have a2l := hK17.tail.lt; have a2z := hK17.tail.froz
                have a3r := hK17.tail.tail.row; have a3f := hK17.tail.tail.free; have a3c := hK17.tail.tail.cell; have a3l := hK17.tail.tail.lt; have a3z := hK17.tail.tail.froz
                go_wp2_with fail
                refine (awake_any _ (HG.out.below hK17.below)).mono ?_
                rintro e w18 ⟨rfl, hb18⟩
                go_wp2_with fail
                go_ret
                exact ⟨rfl, below_more hK17.below hb18⟩
end lawPacketFields
end Go.Proofs.YtbbmfhelncedcaaDoor
