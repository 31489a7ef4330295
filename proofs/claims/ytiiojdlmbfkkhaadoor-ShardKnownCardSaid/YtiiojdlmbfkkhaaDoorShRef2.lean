/-
  shard: the document's own answers: the hubs of a filter.
-/
import Derived.Test.YtiiojdlmbfkkhaaDoorShRef
set_option linter.unusedSimpArgs false
set_option linter.unusedVariables false
namespace Go.Proofs.YtiiojdlmbfkkhaaDoor
open Go.RowKit

def hitI (v : Int) (k : Nat) : List Int := if v < (k : Int) then [v] else []
theorem hit_zero (v : Int) (h : 0 ≤ v) : hitI v 0 = [] := by unfold hitI; rw [if_neg (by omega)]
theorem hit_same (v : Int) (k : Nat) (h : v ≠ (k : Int)) : hitI v (k + 1) = hitI v k := by
  unfold hitI
  by_cases h1 : v < (k : Int)
  · rw [if_pos h1, if_pos (by omega)]
  · rw [if_neg h1, if_neg (by omega)]
theorem hit_at (v : Int) (k : Nat) (h : v = (k : Int)) : hitI v (k + 1) = hitI v k ++ [(k : Int)] := by
  unfold hitI
  rw [if_pos (by omega), if_neg (by omega), h]; rfl
theorem hit_len (v : Int) (k : Nat) : (hitI v k).length ≤ 1 := by unfold hitI; split <;> simp
set_option maxHeartbeats 1000000 in
theorem refHubs_eq (l : List UInt8) (n : Int) (L : List Int) (w : World) (hl : l.length ≤ 1000000) (h : hubsI l n = L) :
    Calls Tryd.prog 22 #[.string ⟨l.toArray⟩, .int .i64 n] w fun e w' => IVP w L e w' := by
  have hb : Below w.heap.size w w := Below.refl _ _
  cases hm : manyB n with
  | false =>
    have H : [] = L := by rw [← h, hubsI, hm]; rfl
    subst H
    have HM := Lib.hid hm
    clear h hm
    go_enter Tryd.func22, Tryd.ntmps22
    go_wp2_with fail
    refine (few_eq n false _ HM.out).mono ?_
    rintro e w1 ⟨rfl, rfl⟩
    go_wp2_with fail
    go_ret
    exact IVP.none_ hb
  | true =>
    have hn := many_yes hm
    have HM := Lib.hid hm
    cases hf : filB l with
    | false =>
      have H : [] = L := by rw [← h, hubsI, hm, hf]; rfl
      subst H
      have HF := Lib.hid hf
      clear h hm hf
      go_enter Tryd.func22, Tryd.ntmps22
      go_wp2_with fail
      refine (few_eq n true _ HM.out).mono ?_
      rintro e w1 ⟨rfl, rfl⟩
      go_wp2_with fail
      refine (refFilter_eq l false _ (by omega) HF.out).mono ?_
      rintro e w1 ⟨rfl, hb1⟩
      replace hb := below_more hb hb1
      clear hb1
      go_wp2_with fail
      go_ret
      exact IVP.none_ hb
    | true =>
      have HF := Lib.hid hf
      obtain ⟨m, rfl⟩ : ∃ m : Nat, n = (m : Int) := ⟨n.toNat, by omega⟩
      have hwx : wilX l = wilB l := (fit_head l hf).symm
      cases hw : wilB l with
      | true =>
        have H : Hid (upI m = L) := by show _ = _; rw [← h, hubsI, hm, hf, hw]; simp
        rw [hw] at hwx
        have HW := Lib.hid hwx
        clear h hm hf hw hwx
        go_enter Tryd.func22, Tryd.ntmps22
        go_wp2_with fail
        refine (few_eq _ true _ HM.out).mono ?_
        rintro e w1 ⟨rfl, rfl⟩
        go_wp2_with fail
        refine (refFilter_eq l true _ (by omega) HF.out).mono ?_
        rintro e w1 ⟨rfl, hb1⟩
        replace hb := below_more hb hb1
        clear hb1
        go_wp2_with fail
        go_loopw [5, 6] (fun v i wr => ∃ k : Nat, k ≤ m ∧ i = .int .i64 k ∧ OwnI 3 w.heap.size w wr v (upI k)) (fun _ i _ => m - (intOf i).toNat)
        case atStart => exact ⟨0, by omega, rfl, OwnI.nil hb hb.size⟩
        case round =>
          obtain ⟨k, hk, rfl, hown⟩ := hrel
          by_cases hlt : k < m
          · have HU : Hid (upI (k + 1) = upI k ++ [(k : Int)]) := upI_snoc k
            have hul := upI_len k
            obtain ⟨L0, hL0⟩ : ∃ L0, L0 = upI k := ⟨_, rfl⟩
            rw [← hL0] at hown hul HU
            clear hL0
            go_wp2_with fail
            refine (refWild_eq l true _ (by omega) HW.out).mono ?_
            rintro e w5 ⟨rfl, hb5⟩
            replace hown := hown.more hb5
            clear hb5
            go_wp2_with (at_builtin; refine wpList_iapp rfl _ _ 32 rfl Tryd.underlying32 infoI rfl (hown.alloc _) _ 1 1 [(k : Int)] rfl (ints_new1 _ _ _) (fun h => by cases h) (by omega) ?_)
            intro v2 w2 hown2
            rw [← HU.out] at hown2
            go_wp2_with fail
            go_roundw
            case rel => exact ⟨k + 1, by omega, by go_num, hown2⟩
            case measure => simp [intOf]; omega
          · have hkn : k = m := by omega
            have hT := OwnI.told hown
            rw [hkn, H.out] at hT
            clear hown hkn
            go_wp2_with fail
            go_ret
            exact hT
      | false =>
        have hhl := head_len l
        obtain ⟨x, hx⟩ : ∃ x, headL l = x := ⟨_, rfl⟩
        obtain ⟨v, hv⟩ : ∃ v, pickI x (m : Int) = v := ⟨_, rfl⟩
        have hvb := pickI_bd x (m : Int) hn.1
        obtain ⟨q, hq⟩ : ∃ q, hsh x = q := ⟨_, rfl⟩
        have hqv : (q : Int) % (m : Int) = v := by rw [← hv, ← hq]; rfl
        have H : Hid (hitI v m = L) := by
          show _ = _
          rw [← h, hubsI, hm, hf, hw, hx, hv]
          rw [hv] at hvb
          unfold hitI
          rw [if_pos hvb.2]; rfl
        rw [hv] at hvb
        have hnw : IntKind.u64.wrap (m : Int) = (m : Int) := by rw [IntKind.wrap_u64]; omega
        have htm : (q : Int).tmod (m : Int) = v := by rw [Int.tmod_eq_emod_of_nonneg (by omega)]; exact hqv
        have HQ := Lib.hid hq
        obtain ⟨S, hS⟩ : ∃ L, levs l = L := ⟨_, rfl⟩
        have HX0 : Hid (S[0]? = some x) := by
          show _ = _
          rw [← hx, ← hS]
          have := levs_cons l
          rw [this]; rfl
        have hpos : 0 < S.length := by rw [← hS]; exact levs_pos l
        have HS := Lib.hid hS
        rw [hx] at hhl
        rw [hw] at hwx
        have HW := Lib.hid hwx
        clear h hm hf hw hwx hv hq hqv hS hx
        go_enter Tryd.func22, Tryd.ntmps22
        go_wp2_with fail
        refine (few_eq _ true _ HM.out).mono ?_
        rintro e w1 ⟨rfl, rfl⟩
        go_wp2_with fail
        refine (refFilter_eq l true _ (by omega) HF.out).mono ?_
        rintro e w1 ⟨rfl, hb1⟩
        replace hb := below_more hb hb1
        clear hb1
        go_wp2_with fail
        go_loopw [5, 6] (fun z i wr => ∃ k : Nat, k ≤ m ∧ i = .int .i64 k ∧ OwnI 3 w.heap.size w wr z (hitI v k)) (fun _ i _ => m - (intOf i).toNat)
        case atStart => exact ⟨0, by omega, rfl, by rw [hit_zero v hvb.1]; exact OwnI.nil hb hb.size⟩
        case round =>
          obtain ⟨k, hk, rfl, hown⟩ := hrel
          by_cases hlt : k < m
          · have hul := hit_len v k
            by_cases hvk : v = (k : Int)
            · have HU : Hid (hitI v (k + 1) = hitI v k ++ [(k : Int)]) := hit_at v k hvk
              have hvk1 : (v == (k : Int)) = true := by simpa using hvk
              obtain ⟨L0, hL0⟩ : ∃ L0, L0 = hitI v k := ⟨_, rfl⟩
              rw [← hL0] at hown hul HU
              clear hL0 hvk
              go_wp2_with fail
              refine (refWild_eq l false _ (by omega) HW.out).mono ?_
              rintro e w5 ⟨rfl, hb5⟩
              replace hown := hown.more hb5
              clear hb5
              go_wp2_with fail
              refine (refLevels_eq l S _ (by omega) HS.out).mono ?_
              rintro e w2 ⟨g, c, rfl, _, hs, hb2⟩
              replace hown := hown.more hb2
              clear hb2
              obtain ⟨x', hx', hcell⟩ := hs.at0 (k := 0) hpos
              rw [HX0.out] at hx'
              obtain rfl := Option.some.inj hx'
              clear hx' hs
              go_wp2_with fail
              refine (refHash_eq x q _ (by omega) HQ.out).mono ?_
              rintro e w3 ⟨rfl, hb3⟩
              replace hown := hown.more hb3
              clear hb3 hcell
              go_wp2_with (at_builtin; refine wpList_iapp rfl _ _ 32 rfl Tryd.underlying32 infoI rfl (hown.alloc _) _ 1 1 [(k : Int)] rfl (ints_new1 _ _ _) (fun h => by cases h) (by omega) ?_)
              intro v2 w2 hown2
              rw [← HU.out] at hown2
              go_wp2_with fail
              go_roundw
              case rel => exact ⟨k + 1, by omega, by go_num, hown2⟩
              case measure => simp [intOf]; omega
            · have HU : Hid (hitI v (k + 1) = hitI v k) := hit_same v k hvk
              have hvk1 : (v == (k : Int)) = false := by simpa using hvk
              rw [← HU.out] at hown
              clear hvk hul
              go_wp2_with fail
              refine (refWild_eq l false _ (by omega) HW.out).mono ?_
              rintro e w5 ⟨rfl, hb5⟩
              replace hown := hown.more hb5
              clear hb5
              go_wp2_with fail
              refine (refLevels_eq l S _ (by omega) HS.out).mono ?_
              rintro e w2 ⟨g, c, rfl, _, hs, hb2⟩
              replace hown := hown.more hb2
              clear hb2
              obtain ⟨x', hx', hcell⟩ := hs.at0 (k := 0) hpos
              rw [HX0.out] at hx'
              obtain rfl := Option.some.inj hx'
              clear hx' hs
              go_wp2_with fail
              refine (refHash_eq x q _ (by omega) HQ.out).mono ?_
              rintro e w3 ⟨rfl, hb3⟩
              replace hown := hown.more hb3
              clear hb3 hcell
              go_wp2_with fail
              go_roundw
              case rel => exact ⟨k + 1, by omega, by go_num, hown⟩
              case measure => simp [intOf]; omega
          · have hkn : k = m := by omega
            have hT := OwnI.told hown
            rw [hkn, H.out] at hT
            clear hown hkn
            go_wp2_with fail
            go_ret
            exact hT
end Go.Proofs.YtiiojdlmbfkkhaaDoor
