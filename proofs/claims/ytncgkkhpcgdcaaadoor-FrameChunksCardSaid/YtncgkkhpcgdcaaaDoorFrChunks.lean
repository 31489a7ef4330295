/-
  FrameChunks.
-/
import Derived.Test.YtncgkkhpcgdcaaaDoorFrLaw
import Derived.Test.YtncgkkhpcgdcaaaDoorFrFacts
import Derived.Test.YtncgkkhpcgdcaaaDoorFrGreat
import Derived.Test.YtncgkkhpcgdcaaaDoorFrOpen
set_option linter.unusedSimpArgs false
set_option linter.unusedVariables false
namespace Go.Proofs.YtncgkkhpcgdcaaaDoor
open Go.RowKit
set_option maxRecDepth 100000
theorem Fr.base {B B' : Nat} {w : World} {g : Nat} {o : Option Nat} {m : Int} {b : List UInt8} {f : Int} (h : Fr B w g o m b f) (hB : B' ≤ B) : Fr B' w g o m b f := by
  obtain ⟨A, n, c, k, L, hS, hr⟩ := h
  exact ⟨A, n, c, k, L, ⟨hS.heap, Nat.le_trans hB hS.base, own_base hS.own hB, hS.le, hS.lo, hS.hi⟩, hr⟩
/-- The last one that was told. -/
theorem own_last {B : Nat} {w : World} {A : Option Addr} {q c : Nat} {TT : List TX} (h : OwnD B w (.slice A q c) TT) (hq : TT.length = q) (q1 : Nat) (h1 : q = q1 + 1) : ∃ b off x, A = some ⟨b, off, none⟩ ∧ TT[q1]? = some x ∧ w.cell? ⟨b, off + q1 * 25 + 24, none⟩ = some (.int .i64 x.2) := by
  obtain ⟨bx, ox, x, B1, n1, d1, e, hxk, _, _, _, _, hcx, _⟩ := (h.tds' hq).1.at_ (show q1 < q by omega)
  exact ⟨bx, ox, x, e, hxk, hcx⟩
theorem flat_take (ss : List (List UInt8)) (k : Nat) (x : List UInt8) (h : ss[k]? = some x) : (ss.take (k + 1)).flatten = (ss.take k).flatten ++ x := by
  rw [List.take_add_one, h]; simp
theorem flat_le (ss : List (List UInt8)) (k : Nat) : (ss.take k).flatten.length ≤ ss.flatten.length := by
  conv => rhs; rw [← List.take_append_drop k ss]
  rw [List.flatten_append, List.length_append]
  omega
theorem flat_split (ss : List (List UInt8)) (k : Nat) : ss.flatten = (ss.take k).flatten ++ (ss.drop k).flatten := by
  conv => lhs; rw [← List.take_append_drop k ss]
  rw [List.flatten_append]
namespace lawFrameChunks
set_option maxHeartbeats 8000000 in
theorem walk (w : World) (hG : Glo w) (most : Int) (hmo : (Lit.int .i64 most).wf = true) (A : Option Addr) (n c : Nat) (ss : List (List UInt8)) (hs : Strs w A n ss) (hn : n ≤ 9223372036854775807) (hl : Hid (∀ x ∈ ss, x.length ≤ 9223372036854775807))
    (A2 : Option Addr) (n2 c2 : Nat) (hbs : Bls w A2 n2) (hn2 : n2 ≤ 9223372036854775807) :
    Calls Tryd.prog 4 #[.int .i64 most, .slice A n c, .slice A2 n2 c2] w fun e w' => e = .returned (.bool true) ∧ Below w.heap.size w w' := by
  have HGL := Lib.hid hG
  have HG : Hid (∀ w', Below w.heap.size w w' → Glo w') := fun w' h => hG.below h
  have HS := Lib.hid hs
  have HBS := Lib.hid hbs
  have hlen := Lib.hid hs.len
  clear hG hs hbs hmo
  go_enter Tryd.func4, Tryd.ntmps4
  go_wp2_with fail
  refine (fgreat_any A n c ss _ HS.out hl.out hn).mono ?_
  rintro e w1 ⟨gr, rfl, rfl, hgr⟩
  cases gr with
  | true =>
    go_wp2_with fail
    refine (awake6_any _ HGL.out).mono ?_
    rintro e w2 ⟨rfl, hb2⟩
    go_wp2_with fail
    go_ret
    exact ⟨rfl, hb2⟩
  | false =>
    obtain ⟨hl20, hn200⟩ := hgr rfl
    clear hgr
    by_cases hmm : most < 16 ∨ 65536 < most
    · go_wp2_with fail
      refine (frNone _ most hmm).mono ?_
      rintro e w2 ⟨rfl, rfl⟩
      go_wp2_with fail
      refine (frNone _ most hmm).mono ?_
      rintro e w3 ⟨rfl, rfl⟩
      clear hmm
      go_wp2_with fail
      refine (awake6_any _ HGL.out).mono ?_
      rintro e w2 ⟨rfl, hb2⟩
      go_wp2_with fail
      go_ret
      exact ⟨rfl, hb2⟩
    · have hm0 : 16 ≤ most := by omega
      have hm1 : most ≤ 65536 := by omega
      clear hmm
      go_wp2_with fail
      refine (frNew _ most hm0 hm1).mono ?_
      rintro e w2 ⟨g1, rfl, hb2, _, hF2⟩
      have HF2 := Lib.hid hF2
      clear hF2
      go_wp2_with fail
      refine (frNew _ most hm0 hm1).mono ?_
      rintro e w3 ⟨g2, rfl, hb3, hg2, hF3⟩
      have hgne : g1 ≠ g2 := by have := HF2.out.lt; omega
      have HF3 := Lib.hid (HF2.out.below hb3)
      have HG3 := Lib.hid (hF3.base hb2.size)
      have HB3 := Lib.hid (below_more hb2 hb3)
      clear hb2 hb3 hg2 hF3 HF2
      go_wp2_with fail
      go_loopw [9, 10, 11] (fun s v i wr => ∃ (k : Nat) (T : List TX) (b : List UInt8) (o : Option Nat), s = .string ⟨((ss.take k).flatten).toArray⟩ ∧ i = .int .i64 k ∧ k ≤ n ∧ Hid (OwnD w1.heap.size wr v T) ∧ Hid (Fr w1.heap.size wr g1 o most b 0) ∧ Hid (Fr w1.heap.size wr g2 none most [] 0) ∧ Hid (Below w1.heap.size w1 wr) ∧ Hid (Inv most (ss.take k).flatten T b 0)) (fun _ _ i _ => n - (intOf i).toNat)
      case atStart => exact ⟨0, [], [], none, by simp, rfl, by omega, OwnD.nil HB3.out.size, HF3.out, HG3.out, HB3.out, by show Inv _ _ _ _ _; simpa using Inv.nil most⟩
      case round =>
        clear HF3 HG3 HB3
        obtain ⟨k, T, b, o, rfl, rfl, hk, HO, HF, HGG, HB, HI⟩ := hrel
        have hfl0 := flat_le ss k
        by_cases hlt : k < n
        · have hlt2 : (k : Int) < (n : Int) := by omega
          have k0 : (0 : Int) ≤ (k : Int) := by omega
          obtain ⟨blk, off, x, hA, hx, hcell⟩ := (HS.out.below HB.out).at_ hlt
          subst hA
          have hfl1 := flat_le ss (k + 1)
          have HSN := Lib.hid (flat_take ss k x hx)
          rw [HSN.out, List.length_append] at hfl1
          obtain ⟨Y0, hY0⟩ : ∃ Y0, Y0 = (ss.take k).flatten := ⟨_, rfl⟩
          rw [← hY0] at HSN hfl1 HI ⊢
          have hil := HI.out.len.2 rfl
          have HI3 := Lib.hid (HI.out.push x)
          have hadd := fun W => add_str (P := Tryd.prog) W Y0 x (by omega)
          have HLS := Lib.hid hl20
          have HL20 : Hid ((Y0 ++ x).length ≤ 20000) := by show _ ≤ _; rw [List.length_append]; omega
          have HPB : Hid (b.length + x.length ≤ 20000) := by show _ ≤ _; omega
          obtain ⟨A5, c5, rfl, _⟩ := HO.out.tds
          obtain ⟨q, hq⟩ : ∃ q, q = T.length := ⟨_, rfl⟩
          rw [← hq] at HO ⊢
          have HTQ : Hid (q = T.length ∧ T.length ≤ 10000) := ⟨hq, by omega⟩
          clear hx hfl1 hY0 hil hq hl20 hfl0 hk HI
          go_wp2_with fail
          refine (frPush HF.out x (by have := HPB.out; omega)).mono ?_
          rintro e w4 ⟨rfl, o', hF4, hd4, _⟩
          have HO' := Lib.hid (HO.out.keep (HF.out.keepD hd4))
          have HG' := Lib.hid (HF.out.second hd4 HGG.out (fun e => hgne e.symm) (fun d e => by cases e))
          have HB' := Lib.hid (HF.out.step hd4 HB.out)
          have HF' := Lib.hid hF4
          clear hF4 hd4 HO HGG HB HF hcell hadd
          obtain ⟨Y, hY⟩ : ∃ Y, Y = Y0 ++ x := ⟨_, rfl⟩
          rw [← hY] at HSN HL20 HI3 ⊢
          obtain ⟨bb, hbb⟩ : ∃ bb, bb = b ++ x := ⟨_, rfl⟩
          rw [← hbb] at HI3 HF'
          have HBB2 : Hid (bb.length ≤ 20000) := by show _ ≤ _; rw [hbb, List.length_append]; exact HPB.out
          clear hY hbb
          by_cases hask : k < n2
          · obtain ⟨b2, off2, e2, _, hc2⟩ := (HBS.out.below HB'.out) (by omega)
            obtain ⟨v, hv⟩ := hc2 k hask
            subst e2
            have hask2 : (k : Int) < (n2 : Int) := by omega
            clear hc2
            cases v with
            | false =>
              go_wp2_with fail
              go_roundw
              case rel => exact ⟨k + 1, T, bb, o', by rw [HSN.out], by go_num, by omega, HO', HF', HG', HB', by rw [HSN.out]; exact HI3⟩
              case measure => simp [intOf]; omega
            | true =>
              have HO := HO'
              have HF := HF'
              have HGG := HG'
              have HB := HB'
              obtain ⟨T1, b1, f1, hDR⟩ : ∃ T1 b1 f1, drR most bb = (T1, b1, f1) := ⟨_, _, _, rfl⟩
              have HDR := Lib.hid hDR
              have hdl := dr_lens hm1 (bb.length + 1) bb (by omega)
              rw [hDR] at hdl
              have HI2 := Lib.hid (HI3.out.drain hm1)
              rw [hDR] at HI2
              dsimp only at hdl HI2
              have HN1 : Hid (T.length ≤ 11000 ∧ T1.length ≤ 11000 ∧ bb.length ≤ 20000 ∧ q = T.length) := by
                have h1 := HTQ.out
                have h2 := HBB2.out
                exact ⟨by omega, by omega, h2, h1.1⟩
              have HR0 : Hid (f1 ≠ 0 → drR most ss.flatten = (T ++ T1, b1, f1)) := by
                intro hf
                obtain ⟨h1, _, h2⟩ := HI2.out.stop hf
                rw [flat_split ss (k + 1), HSN.out, h2, h1]
              clear HO' HF' HG' HB' hDR hdl HI3
              go_wp2_with fail
              clear hv hask2 hlt2
              refine (drain_any HF.out HB.out.size (glo_b HG.out HB.out) (by have := HN1.out; omega) T1 b1 f1 (by rw [dn_zero]; exact HDR.out) (by have := HN1.out; omega)).mono ?_
              rintro e w4 ⟨A6, c6, o4, rfl, hO4, hF4, hd4, hn4⟩
              have HT4 := Lib.hid (hO4.tds' rfl)
              have HO4 := Lib.hid (HO.out.keep (HF.out.keepD hd4))
              have HG4 := Lib.hid (HF.out.second hd4 HGG.out (fun e => hgne e.symm) (fun d e => by cases e))
              have HB4 := Lib.hid (HF.out.step hd4 HB.out)
              have HF4 := Lib.hid hF4
              clear hO4 hd4 hn4 hF4 HO HF HGG HB
              go_wp2_with (at_builtin; refine wpList_dapp rfl _ _ rfl rfl HO4.out A6 T1.length c6 T1 rfl HT4.out.1 HT4.out.2.1 (by have := HN1.out; omega) HT4.out.2.2 ?_)
              intro v5 w5 hO5 hgr L5 hL5
              have HF5 := Lib.hid (HF4.out.grownT hgr hL5)
              have HG5 := Lib.hid (HG4.out.grownT hgr hL5)
              have HB5 := Lib.hid (HB4.out.grown hgr HB4.out.size (fun d hd => (hL5.lt d hd).1))
              have HO5 := Lib.hid hO5
              obtain ⟨A7, c7, rfl, _⟩ := hO5.tds
              obtain ⟨q2, hq2⟩ : ∃ q2, q2 = (T ++ T1).length := ⟨_, rfl⟩
              obtain ⟨TT, hTT⟩ : ∃ TT, TT = T ++ T1 := ⟨_, rfl⟩
              rw [← hq2] at HO5 ⊢
              rw [← hTT] at HO5 hq2 HI2
              have HQ2 : Hid (TT.length = q2) := hq2.symm
              have hq2l : q2 ≤ 30000 := by have := HI2.out.len; have := HL20.out; omega
              have HTT := Lib.hid hTT
              clear hO5 hgr hL5 HF4 HG4 HB4 HO4 HT4 hTT hq2
              by_cases hf0 : f1 = 0
              · subst hf0
                by_cases hq0 : q2 = 0
                · have HQT : Hid (TT = []) := List.eq_nil_of_length_eq_zero (by rw [HQ2.out]; exact hq0)
                  subst hq0
                  go_wp2_with fail
                  go_roundw
                  case rel => exact ⟨k + 1, TT, b1, o4, by rw [HSN.out], by go_num, by omega, HO5, HF5, HG5, HB5, by rw [HSN.out]; exact HI2⟩
                  case measure => simp [intOf]; omega
                · obtain ⟨q1, hq1⟩ : ∃ q1, q2 = q1 + 1 := ⟨q2 - 1, by omega⟩
                  obtain ⟨bl, ol, xl, hA5, hxl, hcl⟩ := own_last HO5.out HQ2.out q1 hq1
                  have hx0 := HI2.out.ok rfl xl (List.mem_of_getElem? hxl)
                  rw [hx0] at hcl
                  subst hA5
                  have l1 : (q2 : Int) - 1 = (q1 : Int) := by omega
                  have l2 : IntKind.i64.wrap (q1 : Int) = q1 := IntWalk.i64_in _ (by omega)
                  have l3 : (0 : Int) ≤ (q1 : Int) := by omega
                  have l4 : (q1 : Int) < (q2 : Int) := by omega
                  have l5 : decide ((0 : Int) < (q2 : Int)) = true := by simp; omega
                  have l6 : 0 < q2 := by omega
                  clear hq0 hxl hx0 hq1
                  go_wp2_with fail
                  clear l1 l2 l3 l4 l5 l6 hcl
                  go_roundw
                  case rel => exact ⟨k + 1, TT, b1, o4, by rw [HSN.out], by go_num, by omega, HO5, HF5, HG5, HB5, by rw [HSN.out]; exact HI2⟩
                  case measure => simp [intOf]; omega
              · have HR := Lib.hid (HR0.out hf0)
                obtain ⟨_, ⟨T0, hT0⟩, _⟩ := HI2.out.stop hf0
                have hq1 : q2 = T0.length + 1 := by rw [← HQ2.out, hT0]; simp
                obtain ⟨q1, hqq⟩ : ∃ q1, q1 = T0.length := ⟨_, rfl⟩
                rw [← hqq] at hq1
                obtain ⟨bl, ol, xl, hA5, hxl, hcl⟩ := own_last HO5.out HQ2.out q1 hq1
                have hx0 : xl = ((zPk, []), f1) := by
                  rw [hT0, hqq, List.getElem?_append_right (Nat.le_refl _)] at hxl
                  simpa using hxl.symm
                rw [hx0] at hcl
                dsimp only at hcl
                subst hA5
                have l1 : (q2 : Int) - 1 = (q1 : Int) := by omega
                have l2 : IntKind.i64.wrap (q1 : Int) = q1 := IntWalk.i64_in _ (by omega)
                have l3 : (0 : Int) ≤ (q1 : Int) := by omega
                have l4 : (q1 : Int) < (q2 : Int) := by omega
                have l5 : ((q2 : Int) == 0) = false := by simp; omega
                have l6 : decide ((0 : Int) < (q2 : Int)) = true := by simp; omega
                have l7 : (f1 != 0) = true := by simpa using hf0
                have l8 : (f1 == 0) = false := by simpa using hf0
                have l9 : 0 < q2 := by omega
                have HY : Hid (Y.length ≤ ss.flatten.length) := by
                  show _ ≤ _
                  have := flat_le ss (k + 1)
                  rw [HSN.out] at this
                  exact this
                have HLY := HL20
                replace HL20 := HLS
                clear hxl hx0 hq1 hT0 hqq hf0 HR0 HSN
                obtain ⟨A7, hA7⟩ : ∃ A7, A7 = some (⟨bl, ol, none⟩ : Addr) := ⟨_, rfl⟩
                rw [show T ++ T1 = TT from HTT.out.symm] at HR
                have HSUB : Hid (∀ x ∈ TT, x.1.2.length ≤ 1000000) := fun x hx => Nat.le_trans (HI2.out.sub x hx) (by omega)
                have hbx : b1.length ≤ 30000 := by have := HI2.out.len; have := HLY.out; omega
                have HFF := HF5
                have HOO := HO5
                have HBB := HB5
                have HGG := HG5
                have HQ := HQ2
                clear HF5 HO5 HB5 HG5 HQ2 HI2 HDR HTT HLY hA7 A7
                go_wp2_with fail
                clear l1 l2 l3 l4 l5 l6 l7 l8 l9 hcl
                go_loopw [12, 13] (fun s i wr2 => ∃ k : Nat, s = .string ⟨((ss.take k).flatten).toArray⟩ ∧ i = .int .i64 k ∧ k ≤ n ∧ wr2 = w5) (fun _ i _ => n - (intOf i).toNat)
                case atStart => exact ⟨0, by simp, rfl, by omega, rfl⟩
                case round =>
                  obtain ⟨k, rfl, rfl, hk, rfl⟩ := hrel
                  by_cases hlt : k < n
                  · have hlt2 : (k : Int) < (n : Int) := by omega
                    have k0 : (0 : Int) ≤ (k : Int) := by omega
                    obtain ⟨b9, off9, x9, e9, hx9, hcell9⟩ := (HS.out.below HBB.out).at_ hlt
                    cases e9
                    have hfl := flat_le ss (k + 1)
                    rw [flat_take ss k x9 hx9, List.length_append] at hfl
                    obtain ⟨Y9, hY9⟩ : ∃ Y9, Y9 = (ss.take k).flatten := ⟨_, rfl⟩
                    have HSN : Hid ((ss.take (k + 1)).flatten = Y9 ++ x9) := by show _ = _; rw [flat_take ss k x9 hx9, hY9]
                    rw [← hY9] at hfl ⊢
                    have hadd := fun W => add_str (P := Tryd.prog) W Y9 x9 (by have := HL20.out; omega)
                    clear hx9 hY9 hfl
                    go_wp2_with fail
                    go_roundw
                    case rel => exact ⟨k + 1, by rw [HSN.out], by go_num, by omega, trivial⟩
                    case measure => simp [intOf]; omega
                  · have hge : ¬ (k : Int) < (n : Int) := by omega
                    have hke : ss.take k = ss := List.take_of_length_le (by rw [hlen.out]; omega)
                    rw [hke]
                    obtain ⟨W9, hW9⟩ : ∃ W9, W9 = ss.flatten := ⟨_, rfl⟩
                    rw [← hW9] at HR HY HL20 ⊢
                    have hl20 : W9.length ≤ 20000 := HL20.out
                    clear hke hlt hk hW9
                    go_wp2_with fail
                    refine (frPush HGG.out W9 (by simp; omega)).mono ?_
                    rintro e w7 ⟨rfl, o7, hG7, hd7, hn7⟩
                    rw [List.nil_append] at hG7
                    have hff7 := HGG.out.second hd7 HFF.out hgne (fun d _ => by simp)
                    have hoo7 := HOO.out.keep (HGG.out.keepD hd7)
                    have hbb7 := HGG.out.step hd7 HBB.out
                    have ho7 : ∀ d, o4 = some d → o7 ≠ some d := by
                      intro d e1 e2
                      rcases hn7 d e2 with h3 | h3
                      · cases h3
                      · obtain ⟨_, cs, h4⟩ := HFF.out.oT d e1
                        have := (Array.getElem?_eq_some_iff.1 h4).1
                        omega
                    have HG7 := Lib.hid hG7
                    have HF7 := Lib.hid hff7
                    have HO7 := Lib.hid hoo7
                    have HB7 := Lib.hid hbb7
                    have HOX := Lib.hid ho7
                    clear hG7 hd7 hn7 hff7 hoo7 hbb7 ho7 HOO HFF HGG HBB
                    go_wp2_with fail
                    refine (drain_any HG7.out HB7.out.size (glo_b HG.out HB7.out) (by omega) TT b1 f1 (by rw [dn_zero]; exact HR.out) (by have := HQ.out; omega)).mono ?_
                    rintro e w8 ⟨A8, c8, o8, rfl, hO8, hG8, hd8, _⟩
                    have HF8 := Lib.hid (HG7.out.second hd8 HF7.out hgne HOX.out)
                    have HO8 := Lib.hid (HO7.out.keep (HG7.out.keepD hd8))
                    have HB8 := Lib.hid (HG7.out.step hd8 HB7.out)
                    have HG8 := Lib.hid hG8
                    have HT8 := Lib.hid (hO8.tds' rfl).1
                    have HT6 := Lib.hid (HO8.out.tds' HQ.out).1
                    rw [HQ.out] at HT8 ⊢
                    clear hO8 hG8 hd8 HG7 HF7 HO7 HB7 HO8
                    go_wp2_with fail
                    refine (tsame _ (some ⟨bl, ol, none⟩) A8 q2 c7 c8 TT HT6.out HT8.out (by omega) HSUB.out).mono ?_
                    rintro e w9 ⟨rfl, hb9⟩
                    have HF9 := Lib.hid (HF8.out.below hb9)
                    have HG9 := Lib.hid (HG8.out.below hb9)
                    have HB9 := Lib.hid (below_more HB8.out hb9)
                    clear hb9 HF8 HG8 HB8 HT6 HT8
                    go_wp2_with fail
                    refine (frLeft' HF9.out (by omega)).mono ?_
                    rintro e w10 ⟨rfl, hb10⟩
                    have HG10 := Lib.hid (HG9.out.below hb10)
                    have HB10 := Lib.hid (below_more HB9.out hb10)
                    clear hb10 HF9 HG9 HB9
                    go_wp2_with fail
                    refine (frLeft' HG10.out (by omega)).mono ?_
                    rintro e w11 ⟨rfl, hb11⟩
                    have HB11 := Lib.hid (below_more HB10.out hb11)
                    have hyd : decide ((Y.length : Int) ≤ (W9.length : Int)) = true := by have := HY.out; simp; omega
                    have hyn : Y.length ≤ W9.length := HY.out
                    clear hb11 HG10 HB10
                    go_wp2_with fail
                    refine (awake6_any _ (HG.out _ HB11.out)).mono ?_
                    rintro e w12 ⟨rfl, hb12⟩
                    go_wp2_with fail
                    go_ret
                    exact ⟨rfl, below_more HB11.out hb12⟩
          · have hask2 : decide ((k : Int) < (n2 : Int)) = false := by simp; omega
            go_wp2_with fail
            go_roundw
            case rel => exact ⟨k + 1, T, bb, o', by rw [HSN.out], by go_num, by omega, HO', HF', HG', HB', by rw [HSN.out]; exact HI3⟩
            case measure => simp [intOf]; omega
        · have hge : ¬ (k : Int) < (n : Int) := by omega
          have hke : ss.take k = ss := List.take_of_length_le (by rw [hlen.out]; omega)
          rw [hke] at HI hfl0 ⊢
          have hil := HI.out.len
          obtain ⟨T1, b1, f1, hDR⟩ : ∃ T1 b1 f1, drR most b = (T1, b1, f1) := ⟨_, _, _, rfl⟩
          have HDR := Lib.hid hDR
          have hdl := dr_lens hm1 (b.length + 1) b (by omega)
          rw [hDR] at hdl
          have HI2 := Lib.hid (HI.out.drain hm1)
          rw [hDR] at HI2
          have HR : Hid (drR most ss.flatten = (T ++ T1, b1, f1)) := by
            show _ = _
            have := HI.out.go rfl []
            rw [List.append_nil, List.append_nil, hDR] at this
            exact this
          dsimp only at hdl HI2
          obtain ⟨A5, c5, rfl, _⟩ := HO.out.tds
          obtain ⟨q, hq⟩ : ∃ q, q = T.length := ⟨_, rfl⟩
          rw [← hq] at HO ⊢
          have HN1 : Hid (T.length ≤ 11000 ∧ T1.length ≤ 11000 ∧ b.length ≤ 20000 ∧ q = T.length) := ⟨by have := hil.2 rfl; omega, by omega, by have := hil.2 rfl; omega, hq⟩
          have HL20 := Lib.hid hl20
          have hq11 : q ≤ 11000 := by have := HN1.out; omega
          clear hDR hke hlt hil hdl hfl0 hq
          obtain ⟨Y, hY⟩ : ∃ Y, Y = ss.flatten := ⟨_, rfl⟩
          have HY : Hid (Y.length ≤ ss.flatten.length) := by show _ ≤ _; rw [hY]; exact Nat.le_refl _
          have hYl : Y.length ≤ 20000 := by rw [hY]; exact hl20
          rw [← hY]
          clear hl20
          by_cases hq0 : q = 0
          · clear hY
            subst hq0
            go_wp2_with fail
            refine (drain_any HF.out HB.out.size (glo_b HG.out HB.out) (by have := HN1.out; omega) T1 b1 f1 (by rw [dn_zero]; exact HDR.out) (by have := HN1.out; omega)).mono ?_
            rintro e w4 ⟨A6, c6, o4, rfl, hO4, hF4, hd4, hn4⟩
            have HT4 := Lib.hid (hO4.tds' rfl)
            have HO4 := Lib.hid (HO.out.keep (HF.out.keepD hd4))
            have HG4 := Lib.hid (HF.out.second hd4 HGG.out (fun e => hgne e.symm) (fun d e => by cases e))
            have HB4 := Lib.hid (HF.out.step hd4 HB.out)
            have HF4 := Lib.hid hF4
            clear hO4 hd4 hn4 hF4 HO HF HGG HB
            go_wp2_with (at_builtin; refine wpList_dapp rfl _ _ rfl rfl HO4.out A6 T1.length c6 T1 rfl HT4.out.1 HT4.out.2.1 (by have := HN1.out; omega) HT4.out.2.2 ?_)
            intro v5 w5 hO5 hgr L5 hL5
            have HF5 := Lib.hid (HF4.out.grownT hgr hL5)
            have HG5 := Lib.hid (HG4.out.grownT hgr hL5)
            have HB5 := Lib.hid (HB4.out.grown hgr HB4.out.size (fun d hd => (hL5.lt d hd).1))
            have HO5 := Lib.hid hO5
            obtain ⟨A7, c7, rfl, _⟩ := hO5.tds
            obtain ⟨q2, hq2⟩ : ∃ q2, q2 = (T ++ T1).length := ⟨_, rfl⟩
            obtain ⟨TT, hTT⟩ : ∃ TT, TT = T ++ T1 := ⟨_, rfl⟩
            rw [← hq2] at HO5 ⊢
            rw [← hTT] at HO5 hq2 HI2
            have HQ2 : Hid (TT.length = q2) := hq2.symm
            have hq2l : q2 ≤ 30000 := by have := HI2.out.len; have := HL20.out; omega
            have HTT := Lib.hid hTT
            clear hO5 hgr hL5 HF4 HG4 HB4 HO4 HT4 hTT hq2
            rw [show T ++ T1 = TT from HTT.out.symm] at HR
            have HSUB : Hid (∀ x ∈ TT, x.1.2.length ≤ 1000000) := fun x hx => Nat.le_trans (HI2.out.sub x hx) (by omega)
            have hbx : b1.length ≤ 30000 := by have := HI2.out.len; have := HL20.out; omega
            have HFF := HF5
            have HOO := HO5
            have HBB := HB5
            have HGG := HG5
            have HQ := HQ2
            clear HF5 HO5 HB5 HG5 HQ2 HI HI2 HDR HTT
            go_wp2_with fail
            go_loopw [12, 13] (fun s i wr2 => ∃ k : Nat, s = .string ⟨((ss.take k).flatten).toArray⟩ ∧ i = .int .i64 k ∧ k ≤ n ∧ wr2 = w5) (fun _ i _ => n - (intOf i).toNat)
            case atStart => exact ⟨0, by simp, rfl, by omega, rfl⟩
            case round =>
              obtain ⟨k, rfl, rfl, hk, rfl⟩ := hrel
              by_cases hlt : k < n
              · have hlt2 : (k : Int) < (n : Int) := by omega
                have k0 : (0 : Int) ≤ (k : Int) := by omega
                obtain ⟨b9, off9, x9, e9, hx9, hcell9⟩ := (HS.out.below HBB.out).at_ hlt
                cases e9
                have hfl := flat_le ss (k + 1)
                rw [flat_take ss k x9 hx9, List.length_append] at hfl
                obtain ⟨Y9, hY9⟩ : ∃ Y9, Y9 = (ss.take k).flatten := ⟨_, rfl⟩
                have HSN : Hid ((ss.take (k + 1)).flatten = Y9 ++ x9) := by show _ = _; rw [flat_take ss k x9 hx9, hY9]
                rw [← hY9] at hfl ⊢
                have hadd := fun W => add_str (P := Tryd.prog) W Y9 x9 (by have := HL20.out; omega)
                clear hx9 hY9 hfl
                go_wp2_with fail
                go_roundw
                case rel => exact ⟨k + 1, by rw [HSN.out], by go_num, by omega, trivial⟩
                case measure => simp [intOf]; omega
              · have hge : ¬ (k : Int) < (n : Int) := by omega
                have hke : ss.take k = ss := List.take_of_length_le (by rw [hlen.out]; omega)
                rw [hke]
                obtain ⟨W9, hW9⟩ : ∃ W9, W9 = ss.flatten := ⟨_, rfl⟩
                rw [← hW9] at HR HY HL20 ⊢
                have hl20 : W9.length ≤ 20000 := HL20.out
                clear hke hlt hk hW9
                go_wp2_with fail
                refine (frPush HGG.out W9 (by simp; omega)).mono ?_
                rintro e w7 ⟨rfl, o7, hG7, hd7, hn7⟩
                rw [List.nil_append] at hG7
                have hff7 := HGG.out.second hd7 HFF.out hgne (fun d _ => by simp)
                have hoo7 := HOO.out.keep (HGG.out.keepD hd7)
                have hbb7 := HGG.out.step hd7 HBB.out
                have ho7 : ∀ d, o4 = some d → o7 ≠ some d := by
                  intro d e1 e2
                  rcases hn7 d e2 with h3 | h3
                  · cases h3
                  · obtain ⟨_, cs, h4⟩ := HFF.out.oT d e1
                    have := (Array.getElem?_eq_some_iff.1 h4).1
                    omega
                have HG7 := Lib.hid hG7
                have HF7 := Lib.hid hff7
                have HO7 := Lib.hid hoo7
                have HB7 := Lib.hid hbb7
                have HOX := Lib.hid ho7
                clear hG7 hd7 hn7 hff7 hoo7 hbb7 ho7 HOO HFF HGG HBB
                go_wp2_with fail
                refine (drain_any HG7.out HB7.out.size (glo_b HG.out HB7.out) (by omega) TT b1 f1 (by rw [dn_zero]; exact HR.out) (by have := HQ.out; omega)).mono ?_
                rintro e w8 ⟨A8, c8, o8, rfl, hO8, hG8, hd8, _⟩
                have HF8 := Lib.hid (HG7.out.second hd8 HF7.out hgne HOX.out)
                have HO8 := Lib.hid (HO7.out.keep (HG7.out.keepD hd8))
                have HB8 := Lib.hid (HG7.out.step hd8 HB7.out)
                have HG8 := Lib.hid hG8
                have HT8 := Lib.hid (hO8.tds' rfl).1
                have HT6 := Lib.hid (HO8.out.tds' HQ.out).1
                rw [HQ.out] at HT8 ⊢
                clear hO8 hG8 hd8 HG7 HF7 HO7 HB7 HO8
                go_wp2_with fail
                refine (tsame _ A7 A8 q2 c7 c8 TT HT6.out HT8.out (by omega) HSUB.out).mono ?_
                rintro e w9 ⟨rfl, hb9⟩
                have HF9 := Lib.hid (HF8.out.below hb9)
                have HG9 := Lib.hid (HG8.out.below hb9)
                have HB9 := Lib.hid (below_more HB8.out hb9)
                clear hb9 HF8 HG8 HB8 HT6 HT8
                go_wp2_with fail
                refine (frLeft' HF9.out (by omega)).mono ?_
                rintro e w10 ⟨rfl, hb10⟩
                have HG10 := Lib.hid (HG9.out.below hb10)
                have HB10 := Lib.hid (below_more HB9.out hb10)
                clear hb10 HF9 HG9 HB9
                go_wp2_with fail
                refine (frLeft' HG10.out (by omega)).mono ?_
                rintro e w11 ⟨rfl, hb11⟩
                have HB11 := Lib.hid (below_more HB10.out hb11)
                have hyd : decide ((Y.length : Int) ≤ (W9.length : Int)) = true := by have := HY.out; simp; omega
                have hyn : Y.length ≤ W9.length := HY.out
                clear hb11 HG10 HB10
                go_wp2_with fail
                refine (awake6_any _ (HG.out _ HB11.out)).mono ?_
                rintro e w12 ⟨rfl, hb12⟩
                go_wp2_with fail
                go_ret
                exact ⟨rfl, below_more HB11.out hb12⟩
          · obtain ⟨q1, hq1⟩ : ∃ q1, q = q1 + 1 := ⟨q - 1, by omega⟩
            obtain ⟨bl, ol, xl, hA5, hxl, hcl⟩ := own_last HO.out HN1.out.2.2.2.symm q1 hq1
            have hx0 := HI.out.ok rfl xl (List.mem_of_getElem? hxl)
            rw [hx0] at hcl
            subst hA5
            have l1 : (q : Int) - 1 = (q1 : Int) := by omega
            have l2 : IntKind.i64.wrap (q1 : Int) = q1 := IntWalk.i64_in _ (by omega)
            have l3 : (0 : Int) ≤ (q1 : Int) := by omega
            have l4 : (q1 : Int) < (q : Int) := by omega
            have l5 : ((q : Int) == 0) = false := by simp; omega
            have l6 : (0 : Int) < (q : Int) := by omega
            clear hY hq0 hxl hx0 hq1
            go_wp2_with fail
            clear l1 l2 l3 l4 l5 l6 hcl
            refine (drain_any HF.out HB.out.size (glo_b HG.out HB.out) (by have := HN1.out; omega) T1 b1 f1 (by rw [dn_zero]; exact HDR.out) (by have := HN1.out; omega)).mono ?_
            rintro e w4 ⟨A6, c6, o4, rfl, hO4, hF4, hd4, hn4⟩
            have HT4 := Lib.hid (hO4.tds' rfl)
            have HO4 := Lib.hid (HO.out.keep (HF.out.keepD hd4))
            have HG4 := Lib.hid (HF.out.second hd4 HGG.out (fun e => hgne e.symm) (fun d e => by cases e))
            have HB4 := Lib.hid (HF.out.step hd4 HB.out)
            have HF4 := Lib.hid hF4
            clear hO4 hd4 hn4 hF4 HO HF HGG HB
            go_wp2_with (at_builtin; refine wpList_dapp rfl _ _ rfl rfl HO4.out A6 T1.length c6 T1 rfl HT4.out.1 HT4.out.2.1 (by have := HN1.out; omega) HT4.out.2.2 ?_)
            intro v5 w5 hO5 hgr L5 hL5
            have HF5 := Lib.hid (HF4.out.grownT hgr hL5)
            have HG5 := Lib.hid (HG4.out.grownT hgr hL5)
            have HB5 := Lib.hid (HB4.out.grown hgr HB4.out.size (fun d hd => (hL5.lt d hd).1))
            have HO5 := Lib.hid hO5
            obtain ⟨A7, c7, rfl, _⟩ := hO5.tds
            obtain ⟨q2, hq2⟩ : ∃ q2, q2 = (T ++ T1).length := ⟨_, rfl⟩
            obtain ⟨TT, hTT⟩ : ∃ TT, TT = T ++ T1 := ⟨_, rfl⟩
            rw [← hq2] at HO5 ⊢
            rw [← hTT] at HO5 hq2 HI2
            have HQ2 : Hid (TT.length = q2) := hq2.symm
            have hq2l : q2 ≤ 30000 := by have := HI2.out.len; have := HL20.out; omega
            have HTT := Lib.hid hTT
            clear hO5 hgr hL5 HF4 HG4 HB4 HO4 HT4 hTT hq2
            rw [show T ++ T1 = TT from HTT.out.symm] at HR
            have HSUB : Hid (∀ x ∈ TT, x.1.2.length ≤ 1000000) := fun x hx => Nat.le_trans (HI2.out.sub x hx) (by omega)
            have hbx : b1.length ≤ 30000 := by have := HI2.out.len; have := HL20.out; omega
            have HFF := HF5
            have HOO := HO5
            have HBB := HB5
            have HGG := HG5
            have HQ := HQ2
            clear HF5 HO5 HB5 HG5 HQ2 HI HI2 HDR HTT
            go_wp2_with fail
            go_loopw [12, 13] (fun s i wr2 => ∃ k : Nat, s = .string ⟨((ss.take k).flatten).toArray⟩ ∧ i = .int .i64 k ∧ k ≤ n ∧ wr2 = w5) (fun _ i _ => n - (intOf i).toNat)
            case atStart => exact ⟨0, by simp, rfl, by omega, rfl⟩
            case round =>
              obtain ⟨k, rfl, rfl, hk, rfl⟩ := hrel
              by_cases hlt : k < n
              · have hlt2 : (k : Int) < (n : Int) := by omega
                have k0 : (0 : Int) ≤ (k : Int) := by omega
                obtain ⟨b9, off9, x9, e9, hx9, hcell9⟩ := (HS.out.below HBB.out).at_ hlt
                cases e9
                have hfl := flat_le ss (k + 1)
                rw [flat_take ss k x9 hx9, List.length_append] at hfl
                obtain ⟨Y9, hY9⟩ : ∃ Y9, Y9 = (ss.take k).flatten := ⟨_, rfl⟩
                have HSN : Hid ((ss.take (k + 1)).flatten = Y9 ++ x9) := by show _ = _; rw [flat_take ss k x9 hx9, hY9]
                rw [← hY9] at hfl ⊢
                have hadd := fun W => add_str (P := Tryd.prog) W Y9 x9 (by have := HL20.out; omega)
                clear hx9 hY9 hfl
                go_wp2_with fail
                go_roundw
                case rel => exact ⟨k + 1, by rw [HSN.out], by go_num, by omega, trivial⟩
                case measure => simp [intOf]; omega
              · have hge : ¬ (k : Int) < (n : Int) := by omega
                have hke : ss.take k = ss := List.take_of_length_le (by rw [hlen.out]; omega)
                rw [hke]
                obtain ⟨W9, hW9⟩ : ∃ W9, W9 = ss.flatten := ⟨_, rfl⟩
                rw [← hW9] at HR HY HL20 ⊢
                have hl20 : W9.length ≤ 20000 := HL20.out
                clear hke hlt hk hW9
                go_wp2_with fail
                refine (frPush HGG.out W9 (by simp; omega)).mono ?_
                rintro e w7 ⟨rfl, o7, hG7, hd7, hn7⟩
                rw [List.nil_append] at hG7
                have hff7 := HGG.out.second hd7 HFF.out hgne (fun d _ => by simp)
                have hoo7 := HOO.out.keep (HGG.out.keepD hd7)
                have hbb7 := HGG.out.step hd7 HBB.out
                have ho7 : ∀ d, o4 = some d → o7 ≠ some d := by
                  intro d e1 e2
                  rcases hn7 d e2 with h3 | h3
                  · cases h3
                  · obtain ⟨_, cs, h4⟩ := HFF.out.oT d e1
                    have := (Array.getElem?_eq_some_iff.1 h4).1
                    omega
                have HG7 := Lib.hid hG7
                have HF7 := Lib.hid hff7
                have HO7 := Lib.hid hoo7
                have HB7 := Lib.hid hbb7
                have HOX := Lib.hid ho7
                clear hG7 hd7 hn7 hff7 hoo7 hbb7 ho7 HOO HFF HGG HBB
                go_wp2_with fail
                refine (drain_any HG7.out HB7.out.size (glo_b HG.out HB7.out) (by omega) TT b1 f1 (by rw [dn_zero]; exact HR.out) (by have := HQ.out; omega)).mono ?_
                rintro e w8 ⟨A8, c8, o8, rfl, hO8, hG8, hd8, _⟩
                have HF8 := Lib.hid (HG7.out.second hd8 HF7.out hgne HOX.out)
                have HO8 := Lib.hid (HO7.out.keep (HG7.out.keepD hd8))
                have HB8 := Lib.hid (HG7.out.step hd8 HB7.out)
                have HG8 := Lib.hid hG8
                have HT8 := Lib.hid (hO8.tds' rfl).1
                have HT6 := Lib.hid (HO8.out.tds' HQ.out).1
                rw [HQ.out] at HT8 ⊢
                clear hO8 hG8 hd8 HG7 HF7 HO7 HB7 HO8
                go_wp2_with fail
                refine (tsame _ A7 A8 q2 c7 c8 TT HT6.out HT8.out (by omega) HSUB.out).mono ?_
                rintro e w9 ⟨rfl, hb9⟩
                have HF9 := Lib.hid (HF8.out.below hb9)
                have HG9 := Lib.hid (HG8.out.below hb9)
                have HB9 := Lib.hid (below_more HB8.out hb9)
                clear hb9 HF8 HG8 HB8 HT6 HT8
                go_wp2_with fail
                refine (frLeft' HF9.out (by omega)).mono ?_
                rintro e w10 ⟨rfl, hb10⟩
                have HG10 := Lib.hid (HG9.out.below hb10)
                have HB10 := Lib.hid (below_more HB9.out hb10)
                clear hb10 HF9 HG9 HB9
                go_wp2_with fail
                refine (frLeft' HG10.out (by omega)).mono ?_
                rintro e w11 ⟨rfl, hb11⟩
                have HB11 := Lib.hid (below_more HB10.out hb11)
                have hyd : decide ((Y.length : Int) ≤ (W9.length : Int)) = true := by have := HY.out; simp; omega
                have hyn : Y.length ≤ W9.length := HY.out
                clear hb11 HG10 HB10
                go_wp2_with fail
                refine (awake6_any _ (HG.out _ HB11.out)).mono ?_
                rintro e w12 ⟨rfl, hb12⟩
                go_wp2_with fail
                go_ret
                exact ⟨rfl, below_more HB11.out hb12⟩
end lawFrameChunks
end Go.Proofs.YtncgkkhpcgdcaaaDoor
