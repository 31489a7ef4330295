/-
  FrRowM, FrRow in one. (By tools/merge.py.)
-/
import Derived.Test.YtncgkkhpcgdcaaaGreatDoorFrAllM
import Derived.Test.YtncgkkhpcgdcaaaGreatDoorWrD
import Derived.Test.YtncgkkhpcgdcaaaGreatDoorPkGreat
import Derived.Test.YtncgkkhpcgdcaaaGreatDoorPkO
import Derived.Test.YtncgkkhpcgdcaaaGreatDoorWrOpen
set_option linter.unusedSimpArgs false
set_option linter.unusedVariables false
/-
  FrameRow: what is told of packets that were written.
-/
namespace Go.Proofs.YtncgkkhpcgdcaaaGreatDoor
set_option maxRecDepth 100000
section
variable {p : Pk} {xs : List (List UInt8 × Int)}
theorem body_le' (h : Ok p xs) : restN p xs ≤ (totB p xs : Int) + 3 * xs.length + 24 := by
  rw [← h.bytes]
  have h0 := (sbB_bd 0 (by omega) xs).2
  have h1 := (sbB_bd 1 (by omega) xs).2
  unfold takeB totB
  split
  · unfold conB fldB
    split <;> split <;> split <;> omega
  · split
    · omega
    · split
      · unfold pubB fldB
        split <;> omega
      · split
        · omega
        · split
          · omega
          · split
            · omega
            · split <;> omega
theorem enc_bd (h : Ok p xs) (h1 : totB p xs ≤ 10000) (h2 : xs.length ≤ 100) : (encL p xs).length ≤ 20000 ∧ 2 ≤ (encL p xs).length := by
  have hb := body_le' h
  have he := enc_len h
  have hs := sizeF_bd (restN p xs)
  have hlo := h.lo
  exact ⟨by omega, by omega⟩
/-- A packet that was written, and what stands behind it. -/
theorem dc_enc (m : Int) (h : Ok p xs) (np : Num p xs) (t : List UInt8) : dcR m (encL p xs ++ t) = if m < (encL p xs).length then (zPk, [], 0, 3) else (p, xs, ((encL p xs).length : Int), 0) := by
  obtain ⟨h0, h1, h2, h3, h4⟩ := head_bd h np
  have hl := body_len h
  have he := enc_len h
  have hs := sizeF_bd (restN p xs)
  have hlo := h.lo
  have hr := rdR_back (restN p xs) (bodyL p xs ++ t) hlo h.hi
  have hE : encL p xs ++ t = toB (p.ty * 16 + flagsN p) :: (lenL 3 (restN p xs) ++ (bodyL p xs ++ t)) := by unfold encL; simp
  have hsz : szR m (encL p xs ++ t) = if m < (encL p xs).length then (0, 3) else (((encL p xs).length : Int), 0) := by
    rw [hE, sz_cons, toB_toNat _ h0 h1, h4, if_pos rfl, rd_take, hr]
    unfold szT
    rw [if_neg (by simp), if_pos rfl, he]
  unfold dcR
  rw [hsz]
  by_cases hm : m < (encL p xs).length
  · rw [if_pos hm, if_pos (by left; simp), if_pos hm]
  · rw [if_neg hm, if_neg hm, if_neg]
    · have := dec_back h np []
      rw [List.append_nil] at this
      dsimp only
      rw [Int.toNat_natCast, List.take_left, this]
    · dsimp only
      rw [List.length_append]
      intro hh
      rcases hh with hh | hh | hh
      · exact hh rfl
      · omega
      · omega
end
/-- What is told of packets in a row. -/
def wantR (m : Int) : List PX → List TX
  | [] => []
  | x :: r => if m < (encP x).length then [((zPk, []), 3)] else (x, 0) :: wantR m r
def longR (m : Int) (ps : List PX) : Bool := ps.any (fun x => decide (m < (encP x).length))
theorem want_snoc (m : Int) (x : PX) : ∀ ps : List PX, wantR m (ps ++ [x]) = if longR m ps then wantR m ps else wantR m ps ++ [if m < (encP x).length then ((zPk, []), 3) else (x, 0)]
  | [] => by
    by_cases h : m < (encP x).length <;> simp [wantR, longR, h]
  | y :: r => by
    have ih := want_snoc m x r
    by_cases h : m < (encP y).length
    · simp [wantR, longR, h]
    · simp only [List.cons_append, wantR, h, if_false, ih]
      have : longR m (y :: r) = longR m r := by simp [longR, h]
      rw [this]
      split <;> rfl
theorem long_snoc (m : Int) (ps : List PX) (x : PX) : longR m (ps ++ [x]) = (longR m ps || decide (m < (encP x).length)) := by simp [longR]
theorem want_len (m : Int) : ∀ ps : List PX, (wantR m ps).length ≤ ps.length
  | [] => Nat.le_refl _
  | y :: r => by
    have ih := want_len m r
    by_cases h : m < (encP y).length
    · simp [wantR, h]
    · simp only [wantR, h, if_false, List.length_cons]; omega
theorem want_sub (m : Int) : ∀ ps : List PX, (∀ x ∈ ps, x.2.length ≤ 100) → ∀ x ∈ wantR m ps, x.1.2.length ≤ 1000000
  | [], _, x, hx => by cases hx
  | y :: r, h, x, hx => by
    by_cases hl : m < (encP y).length
    · simp [wantR, hl] at hx
      rw [hx]; simp
    · simp only [wantR, hl, if_false, List.mem_cons] at hx
      rcases hx with rfl | hx
      · exact Nat.le_trans (h y (by simp)) (by omega)
      · exact want_sub m r (fun z hz => h z (by simp [hz])) x hx
theorem dr_row (m : Int) (hm : m ≤ 65536) : ∀ ps : List PX, (∀ x ∈ ps, Ok x.1 x.2 ∧ Fit x.1 x.2) → drR m (ps.flatMap encP) = (wantR m ps, [], if longR m ps then 3 else 0)
  | [], _ => rfl
  | y :: r, h => by
    obtain ⟨h1, h2⟩ := h y (by simp)
    have hd := dc_enc m h1 h2.num' (r.flatMap encP)
    have ih := dr_row m hm r (fun z hz => h z (by simp [hz]))
    have hE : (y :: r).flatMap encP = encL y.1 y.2 ++ r.flatMap encP := by rw [List.flatMap_cons]; rfl
    have hy : encP y = encL y.1 y.2 := rfl
    have he := enc_len h1
    have hs := sizeF_bd (restN y.1 y.2)
    have hlo := h1.lo
    rw [hE]
    by_cases hl : m < (encL y.1 y.2).length
    · rw [if_pos hl] at hd
      rw [dr_err hd (by decide)]
      simp [wantR, longR, hy, hl]
    · rw [if_neg hl] at hd
      rw [dr_some hm hd (by omega) (by rw [List.length_append]; omega), List.drop_left, ih]
      have hl2 : ¬ m < ((encP y).length : Int) := hl
      have hl3 : longR m (y :: r) = longR m r := by unfold longR; rw [List.any_cons, decide_eq_false hl2, Bool.false_or]
      have hl4 : wantR m (y :: r) = (y, 0) :: wantR m r := by rw [wantR, if_neg hl2]
      rw [hl3, hl4]
end Go.Proofs.YtncgkkhpcgdcaaaGreatDoor

/-
  FrameRow.
-/
namespace Go.Proofs.YtncgkkhpcgdcaaaGreatDoor
open Go.RowKit
set_option maxRecDepth 100000
namespace lawFrameRow
def Good (ps : List PX) : Prop := ∀ x ∈ ps, okB x = true ∧ Fit x.1 x.2 ∧ totB x.1 x.2 ≤ 10000 ∧ x.2.length ≤ 100
theorem good_snoc {ps : List PX} {k : Nat} {x : PX} (h : Good (ps.take k)) (hx : ps[k]? = some x) (h1 : okB x = true) (h2 : Fit x.1 x.2) (h3 : totB x.1 x.2 ≤ 10000) (h4 : x.2.length ≤ 100) : Good (ps.take (k + 1)) := by
  intro y hy
  rw [List.take_add_one, hx] at hy
  simp only [List.mem_append, Option.toList_some, List.mem_singleton] at hy
  rcases hy with hy | rfl
  · exact h y hy
  · exact ⟨h1, h2, h3, h4⟩
theorem okB_ok' {x : PX} (h : okB x = true) : Ok x.1 x.2 := ok_of (by simpa [okB] using h)
theorem flat_len : ∀ ps : List PX, Good ps → (ps.flatMap encP).length ≤ 20000 * ps.length
  | [], _ => by simp
  | y :: r, h => by
    obtain ⟨a, b, c, d⟩ := h y (by simp)
    have h1 := (enc_bd (okB_ok' a) c d).1
    have h2 := flat_len r (fun z hz => h z (by simp [hz]))
    rw [List.flatMap_cons, List.length_append, List.length_cons]
    have : (encP y).length ≤ 20000 := h1
    omega
set_option maxHeartbeats 8000000 in
theorem walk (w : World) (hG : Glo w) (most : Int) (hmo : (Lit.int .i64 most).wf = true) (A : Option Addr) (n c : Nat) (ps : List PX) (hs : Pks w A n ps) (hc : A = none → c = 0) (hn : n ≤ 9223372036854775807) (hp : ∀ x ∈ ps, Came x.1 x.2) :
    Calls Tryz.prog 4 #[.int .i64 most, .slice A n c] w fun e w' => e = .returned (.bool true) ∧ Below w.heap.size w w' := by
  have HGL := Lib.hid hG
  have HG : Hid (∀ w', Below w.heap.size w w' → Glo w') := fun w' h => hG.below h
  have HS := Lib.hid hs
  have HC := Lib.hid hp
  have hlen := Lib.hid hs.len
  clear hG hs hp hc hmo
  by_cases hbig : 20 < n
  · have hd : decide ((20 : Int) < (n : Int)) = true := by simp; omega
    go_enter Tryz.func4, Tryz.ntmps4
    go_wp2_with fail
    refine (awake6_any _ HGL.out).mono ?_
    rintro e w2 ⟨rfl, hb2⟩
    go_wp2_with fail
    go_ret
    exact ⟨rfl, hb2⟩
  · have hd : decide ((20 : Int) < (n : Int)) = false := by simp; omega
    have hn20 : n ≤ 20 := by omega
    clear hbig hn
    by_cases hmm : most < 16 ∨ 65536 < most
    · go_enter Tryz.func4, Tryz.ntmps4
      go_wp2_with fail
      refine (frNone _ most hmm).mono ?_
      rintro e w2 ⟨rfl, rfl⟩
      by_cases hm1 : most < 16
      · have d1 : decide (most < 16) = true := by simpa using hm1
        clear hmm
        go_wp2_with fail
        refine (awake6_any _ HGL.out).mono ?_
        rintro e w2 ⟨rfl, hb2⟩
        go_wp2_with fail
        go_ret
        exact ⟨rfl, hb2⟩
      · have d1 : decide (most < 16) = false := by simpa using hm1
        have d2 : decide (65536 < most) = true := by simp; omega
        clear hmm
        go_wp2_with fail
        refine (awake6_any _ HGL.out).mono ?_
        rintro e w2 ⟨rfl, hb2⟩
        go_wp2_with fail
        go_ret
        exact ⟨rfl, hb2⟩
    · have hm0 : 16 ≤ most := by omega
      have hm1 : most ≤ 65536 := by omega
      clear hmm
      go_enter Tryz.func4, Tryz.ntmps4
      go_wp2_with fail
      refine (frNew _ most hm0 hm1).mono ?_
      rintro e w2 ⟨g1, rfl, hb2, _, hF2⟩
      have HF2 := Lib.hid hF2
      have HB2 := Lib.hid hb2
      clear hF2 hb2
      go_wp2_with fail
      go_loopw [6, 7, 8] (fun v l i wr => ∃ (k : Nat) (o : Option Nat), i = .int .i64 k ∧ k ≤ n ∧ l = .bool (longR most (ps.take k)) ∧ Hid (OwnD w.heap.size wr v (wantR most (ps.take k))) ∧ Hid (Fr w.heap.size wr g1 o most ((ps.take k).flatMap encP) 0) ∧ Hid (Below w.heap.size w wr) ∧ Hid (Good (ps.take k))) (fun _ _ i _ => n - (intOf i).toNat)
      case atStart => exact ⟨0, none, rfl, by omega, rfl, OwnD.nil HB2.out.size, HF2.out, HB2.out, by show Good _; intro x hx; simp at hx⟩
      case round =>
        clear HF2 HB2
        obtain ⟨k, o, rfl, hk, rfl, HO, HF, HB, HGOOD⟩ := hrel
        have hfl := flat_len _ HGOOD.out
        rw [List.length_take, hlen.out, Nat.min_eq_left hk] at hfl
        obtain ⟨Z, hZ⟩ : ∃ Z, Z = (ps.take k).flatMap encP := ⟨_, rfl⟩
        rw [← hZ] at HF hfl
        obtain ⟨W, hW⟩ : ∃ W, W = wantR most (ps.take k) := ⟨_, rfl⟩
        have HW := Lib.hid hW
        rw [← hW] at HO
        have hwl : W.length ≤ 20 := by have := want_len most (ps.take k); rw [hW]; rw [List.length_take] at this; omega
        have HZL : Hid (Z.length ≤ 400000) := by show _ ≤ _; omega
        have HZ := Lib.hid hZ
        obtain ⟨lg, hlg⟩ : ∃ lg, lg = longR most (ps.take k) := ⟨_, rfl⟩
        have HLG := Lib.hid hlg
        rw [← hlg]
        obtain ⟨A5, c5, rfl, _⟩ := HO.out.tds
        obtain ⟨q, hq⟩ : ∃ q, q = W.length := ⟨_, rfl⟩
        rw [← hq] at HO ⊢
        have HQ : Hid (q = W.length) := hq
        have hq20 : q ≤ 20 := by omega
        clear hfl hZ hW hlg hwl hq
        by_cases hlt : k < n
        · have hlt2 : (k : Int) < (n : Int) := by omega
          have k0 : (0 : Int) ≤ (k : Int) := by omega
          obtain ⟨bx, off, x, A', n', c', hA, hxk, hbx, hsz, hex, hsub, hcx⟩ := HS.out.at_ hlt
          subst hA
          have HSUB := Lib.hid hsub
          have HCX := Lib.hid (HC.out x (List.mem_of_getElem? hxk))
          have HXK := Lib.hid hxk
          have HCC := Lib.hid hcx
          have HTK : Hid (ps.take (k + 1) = ps.take k ++ [x]) := by show _ = _; rw [List.take_add_one, hxk]; rfl
          have hz1 := rowAt_below HB.out hbx
          clear hsub hxk hcx
          go_wp2_with fail
          refine (great_any x.1 A' n' c' x.2 _ (HSUB.out.below HB.out) HCX.out).mono ?_
          rintro e w3 ⟨g, rfl, hgr, hb3⟩
          have HGR := Lib.hid hgr
          have HB3 := Lib.hid (below_more HB.out hb3)
          have HO3 := Lib.hid (HO.out.more hb3)
          have HF3 := Lib.hid (HF.out.below hb3)
          clear hgr hb3 hz1 HO HF HB
          have hz1 := rowAt_below HB3.out hbx
          cases g with
          | true =>
            go_wp2_with fail
            refine (awake6_any _ (HG.out _ HB3.out)).mono ?_
            rintro e w4 ⟨rfl, hb4⟩
            go_wp2_with fail
            go_ret
            exact ⟨rfl, below_more HB3.out hb4⟩
          | false =>
            have HTT := Lib.hid (HGR.out rfl)
            have HFIT := Lib.hid (fit_came HCX.out HTT.out.1 HTT.out.2)
            cases hok : okB x with
            | false =>
              have HE : Hid (encR x.1 x.2 = ([], 4)) := by
                show _ = _
                unfold encR
                rw [if_neg]
                intro h
                simp [okB, h] at hok
              clear hok
              go_wp2_with fail
              refine (encode_eq x.1 A' n' c' x.2 [] 4 _ (HG.out _ HB3.out) (HSUB.out.below HB3.out) HCC.out HFIT.out HE.out).mono ?_
              rintro e w4 ⟨rfl, hb4⟩
              have HB4 := Lib.hid (below_more HB3.out hb4)
              clear hb4
              go_wp2_with fail
              refine (awake6_any _ (HG.out _ HB4.out)).mono ?_
              rintro e w5 ⟨rfl, hb5⟩
              go_wp2_with fail
              go_ret
              exact ⟨rfl, below_more HB4.out hb5⟩
            | true =>
              have HOK := Lib.hid hok
              have HE : Hid (encR x.1 x.2 = (encP x, 0)) := by show _ = _; unfold encR; rw [if_pos (by simpa [okB] using hok)]; rfl
              have hbd := enc_bd (okB_ok' hok) HTT.out.1 HTT.out.2
              have HGD := Lib.hid (good_snoc HGOOD.out HXK.out hok HFIT.out HTT.out.1 HTT.out.2)
              have HWS := Lib.hid (want_snoc most x (ps.take k))
              have HLS := Lib.hid (long_snoc most (ps.take k) x)
              rw [← HTK.out, ← HLG.out, ← HW.out] at HWS
              rw [← HTK.out, ← HLG.out] at HLS
              have HZS : Hid ((ps.take (k + 1)).flatMap encP = Z ++ encP x) := by show _ = _; rw [HTK.out, List.flatMap_append, HZ.out]; simp
              obtain ⟨S, hS⟩ : ∃ S, S = encP x := ⟨_, rfl⟩
              rw [← hS] at HE HWS HLS HZS
              have hSl : S.length ≤ 20000 := by rw [hS]; exact hbd.1
              clear hok hbd hS HGOOD
              go_wp2_with fail
              refine (encode_eq x.1 A' n' c' x.2 S 0 _ (HG.out _ HB3.out) (HSUB.out.below HB3.out) HCC.out HFIT.out HE.out).mono ?_
              rintro e w4 ⟨rfl, hb4⟩
              have HB4 := Lib.hid (below_more HB3.out hb4)
              have HO4 := Lib.hid (HO3.out.more hb4)
              have HF4 := Lib.hid (HF3.out.below hb4)
              clear hb4 HB3 HO3 HF3 hz1
              go_wp2_with fail
              refine (frPush HF4.out S (by have := HZL.out; omega)).mono ?_
              rintro e w5 ⟨rfl, o', hF5, hd5, _⟩
              have HO5 := Lib.hid (HO4.out.keep (HF4.out.keepD hd5))
              have HB5 := Lib.hid (HF4.out.step hd5 HB4.out)
              have HF5 := Lib.hid hF5
              rw [← HZS.out] at HF5
              clear hF5 hd5 HB4 HO4 HF4
              have hz1 := rowAt_below HB5.out hbx
              cases lg with
              | true =>
                have HLN : Hid (Value.bool true = .bool (longR most (ps.take (k + 1)))) := by show _ = _; rw [HLS.out]; rfl
                have hwn : wantR most (ps.take (k + 1)) = W := by rw [HWS.out, if_pos rfl]
                rw [← hwn] at HO5
                clear hwn
                go_wp2_with fail
                go_roundw
                case rel => exact ⟨k + 1, o', by go_num, by omega, HLN, HO5, HF5, HB5, HGD⟩
                case measure => simp [intOf]; omega
              | false =>
                have hq21 : (W.length : Nat) ≤ 20 := by rw [← HQ.out]; exact hq20
                have HW20 := Lib.hid hq21
                clear hq21
                cases hlg : decide (most < (S.length : Int)) with
                | true =>
                  have HLN : Hid (Value.bool true = .bool (longR most (ps.take (k + 1)))) := by show _ = _; rw [HLS.out, hlg]; rfl
                  have hwn : wantR most (ps.take (k + 1)) = W ++ [((zPk, []), 3)] := by rw [HWS.out, if_neg (by simp), if_pos (by simpa using hlg)]
                  have hba := (Below.refl w5.heap.size w5).alloc (Nat.le_refl _) (.cells (TdC zPk none 0 0 3) 53)
                  have HO6 := Lib.hid (HO5.out.more hba)
                  have HF6 := Lib.hid (HF5.out.below hba)
                  have HB6 := Lib.hid (below_more HB5.out hba)
                  have HT6 := Lib.hid (tds_one (w := w5.alloc (.cells (TdC zPk none 0 0 3) 53)) (xs := []) (rowAt_alloc_at _ _ _ rfl) (by simp) (Subs.nil _) (fun _ => rfl) (subT_nil _ _))
                  have HWN := Lib.hid hwn
                  clear hba hwn HO5 HF5 HB5 hz1
                  go_wp2_with (first | refine wpList_buildE rfl _ _ rfl (TdC zPk none 0 0 3) (by kernel_rfl) ?_ | (at_builtin; refine wpList_dapp rfl _ _ rfl rfl HO6.out (some ⟨w5.heap.size, 0, none⟩) 1 1 [((zPk, []), 3)] rfl (by simpa using HT6.out) (fun e => by cases e) (by have := HW20.out; omega) (Or.inr ⟨_, _, rfl⟩) ?_))
                  intro v7 w7 hO7 hgr L7 hL7
                  have HF5 := Lib.hid (HF6.out.grownT hgr hL7)
                  have HB5 := Lib.hid (HB6.out.grown hgr HB6.out.size (fun d hd => (hL7.lt d hd).1))
                  rw [← HWN.out] at hO7
                  have HO5 := Lib.hid hO7
                  clear hO7 hgr hL7 HO6 HF6 HB6 HT6
                  go_wp2_with fail
                  go_roundw
                  case rel => exact ⟨k + 1, o', by go_num, by omega, HLN, HO5, HF5, HB5, HGD⟩
                  case measure => simp [intOf]; omega
                | false =>
                  have HLN : Hid (Value.bool false = .bool (longR most (ps.take (k + 1)))) := by show _ = _; rw [HLS.out, hlg]; rfl
                  have hwn : wantR most (ps.take (k + 1)) = W ++ [(x, 0)] := by rw [HWS.out, if_neg (by simp), if_neg (by simpa using hlg)]
                  have HWN := Lib.hid hwn
                  have hn1 : n' ≤ 1000000 := by have := HSUB.out.len; have := HTT.out.2; omega
                  clear hwn
                  go_wp2_with fail
                  refine (copyOwn_any x.1 A' n' c' x.2 _ (HSUB.out.below HB5.out) HCC.out hn1).mono ?_
                  rintro e w6 ⟨A9, c9, rfl, hb6, hN⟩
                  obtain ⟨hN1, hN2, _⟩ := hN.subs
                  have hNB := hN.blk
                  have hst : SubT w6 A9 n' := by
                    intro h0 b9 o9 e9
                    rcases hNB with ⟨_, h1⟩ | ⟨g9, cur, h1, _, h2, _⟩
                    · omega
                    · rw [h1] at e9
                      cases e9
                      exact ⟨cur, h2⟩
                  have hba := (Below.refl w6.heap.size w6).alloc (Nat.le_refl _) (.cells (TdC x.1 A9 n' c9 0) 53)
                  have hbc := below_more hb6 hba
                  have HO6 := Lib.hid (HO5.out.more hbc)
                  have HF6 := Lib.hid (HF5.out.below hbc)
                  have HB6 := Lib.hid (below_more HB5.out hbc)
                  have HT6 := Lib.hid (tds_one (w := w6.alloc (.cells (TdC x.1 A9 n' c9 0) 53)) (rowAt_alloc_at _ _ _ rfl) (by simp) (hN1.below hba) hN2 (subT_keep hst (.of_below hba)))
                  clear hba hbc hb6 hN hN1 hN2 hNB hst HO5 HF5 HB5 hz1
                  go_wp2_with (first | refine wpList_buildE rfl _ _ rfl (TdC x.1 A9 n' c9 0) (by kernel_rfl) ?_ | (at_builtin; refine wpList_dapp rfl _ _ rfl rfl HO6.out (some ⟨w6.heap.size, 0, none⟩) 1 1 [((x.1, x.2), 0)] rfl (by simpa using HT6.out) (fun e => by cases e) (by have := HW20.out; omega) (Or.inr ⟨_, _, rfl⟩) ?_))
                  intro v7 w7 hO7 hgr L7 hL7
                  have HF5 := Lib.hid (HF6.out.grownT hgr hL7)
                  have HB5 := Lib.hid (HB6.out.grown hgr HB6.out.size (fun d hd => (hL7.lt d hd).1))
                  have HO5 : Hid (OwnD w.heap.size w7 v7 (wantR most (ps.take (k + 1)))) := by rw [HWN.out]; exact hO7
                  clear hO7 hgr hL7 HO6 HF6 HB6 HT6
                  go_wp2_with fail
                  go_roundw
                  case rel => exact ⟨k + 1, o', by go_num, by omega, HLN, HO5, HF5, HB5, HGD⟩
                  case measure => simp [intOf]; omega
        · have hge : ¬ (k : Int) < (n : Int) := by omega
          have hke : ps.take k = ps := List.take_of_length_le (by rw [hlen.out]; omega)
          rw [hke] at HGOOD HW HZ HLG
          have HDR : Hid (dnR most Z 0 = (W, [], if lg then 3 else 0)) := by
            show _ = _
            rw [dn_zero, HZ.out, dr_row most hm1 ps (fun x hx => ⟨okB_ok' (HGOOD.out x hx).1, (HGOOD.out x hx).2.1⟩), HW.out, HLG.out]
          have HSB : Hid (∀ x ∈ W, x.1.2.length ≤ 1000000) := by
            show ∀ x ∈ W, _
            rw [HW.out]
            exact want_sub most ps (fun x hx => (HGOOD.out x hx).2.2.2)
          clear hke hlt hk
          go_wp2_with fail
          refine (drain_any HF.out HB.out.size (glo_b HG.out HB.out) (by have := HZL.out; omega) W [] _ HDR.out (by rw [← HQ.out]; omega)).mono ?_
          rintro e w3 ⟨A8, c8, o8, rfl, hO8, hF8, hd8, _⟩
          have HO3 := Lib.hid (HO.out.keep (HF.out.keepD hd8))
          have HB3 := Lib.hid (HF.out.step hd8 HB.out)
          have HF3 := Lib.hid hF8
          have HT8 := Lib.hid (hO8.tds' rfl).1
          have HT6 := Lib.hid (HO3.out.tds' HQ.out.symm).1
          rw [← HQ.out] at HT8 ⊢
          clear hO8 hF8 hd8 HO HB HF HO3
          go_wp2_with fail
          refine (tsame _ A8 A5 q c8 c5 W HT8.out HT6.out (by omega) HSB.out).mono ?_
          rintro e w4 ⟨rfl, hb4⟩
          have HF4 := Lib.hid (HF3.out.below hb4)
          have HB4 := Lib.hid (below_more HB3.out hb4)
          clear hb4 HF3 HB3 HT6 HT8
          go_wp2_with fail
          refine (frLeft' HF4.out (by simp)).mono ?_
          rintro e w5 ⟨rfl, hb5⟩
          have HB5 := Lib.hid (below_more HB4.out hb5)
          clear hb5 HF4 HB4
          go_wp2_with fail
          refine (awake6_any _ (HG.out _ HB5.out)).mono ?_
          rintro e w6 ⟨rfl, hb6⟩
          go_wp2_with fail
          go_ret
          exact ⟨rfl, below_more HB5.out hb6⟩
end lawFrameRow
end Go.Proofs.YtncgkkhpcgdcaaaGreatDoor
