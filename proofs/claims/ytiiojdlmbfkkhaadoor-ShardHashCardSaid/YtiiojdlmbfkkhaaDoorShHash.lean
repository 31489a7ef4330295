/-
  ShardHash: the hash of texts is the document's, of all at once. The card.
-/
import Derived.Test.YtiiojdlmbfkkhaaDoorShLaw
import Derived.Test.YtiiojdlmbfkkhaaDoorTpLaw
import Derived.Test.YtiiojdlmbfkkhaaDoorWrFrame
import Derived.Test.YtiiojdlmbfkkhaaDoorTie
import Derived.Test.YtiiojdlmbfkkhaaDoorCards
import Derived.SevenTiedAt
import Derived.ProofKit
set_option linter.unusedSimpArgs false
set_option linter.unusedVariables false
namespace Go.Proofs.YtiiojdlmbfkkhaaDoor
open Go.RowKit Go.ChangeShapes Go.WideShapes Go.ChangeAt
open Go.ChangeMaps (open_string shut_string)
namespace lawShardHash
set_option maxHeartbeats 1000000 in
theorem walk (w : World) (hG : Glo w) (A : Option Addr) (n c : Nat) (xs : List (List UInt8)) (hs : Strs w A n xs) (hnc : n ≤ c) (hn : n ≤ 9223372036854775807) (hm : Hid (∀ x ∈ xs, x.length ≤ 140737488351232)) :
    Calls Tryd.prog 3 #[.slice A n c] w fun e w' => e = .returned (.bool true) ∧ Below w.heap.size w w' := by
  have HG := Lib.hid hG
  have hb : Below w.heap.size w w := Below.refl _ _
  have HL := Lib.hid hs.len
  have HM : Hid (∀ x ∈ xs, x.length ≤ 9223372036854775807) := fun x hx => by have := hm.out x hx; omega
  clear hG
  by_cases h1 : 50 < n
  · have i1 : (50 : Int) < (n : Int) := by omega
    go_enter Tryd.func3, Tryd.ntmps3
    go_wp2_with fail
    refine (awake8_any _ (HG.out.below hb)).mono ?_
    rintro e w1 ⟨rfl, hb1⟩
    replace hb := below_more hb hb1
    clear hb1
    go_wp2_with fail
    go_ret
    exact ⟨rfl, hb⟩
  have i1 : ¬ (50 : Int) < (n : Int) := by omega
  cases hlx : xs.any longX with
  | true =>
    have HX := longAny_eq A n c xs w hs hn HM
    rw [hlx] at HX
    clear hlx
    go_enter Tryd.func3, Tryd.ntmps3
    go_wp2_with fail
    refine HX.mono ?_
    rintro e w1 ⟨rfl, rfl⟩
    go_wp2_with fail
    refine (awake8_any _ (HG.out.below hb)).mono ?_
    rintro e w1 ⟨rfl, hb1⟩
    replace hb := below_more hb hb1
    clear hb1
    go_wp2_with fail
    go_ret
    exact ⟨rfl, hb⟩
  | false =>
    have HX := longAny_eq A n c xs w hs hn HM
    rw [hlx] at HX
    clear hlx
    go_enter Tryd.func3, Tryd.ntmps3
    go_wp2_with fail
    refine HX.mono ?_
    rintro e w1 ⟨rfl, rfl⟩
    clear HX
    go_wp2_with fail
    go_loop [3] (fun i => ∃ k : Nat, i = .int .i64 k ∧ k ≤ n ∧ Hid (∀ (j : Nat) (x : List UInt8), j < k → xs[j]? = some x → x.length ≤ 2000)) (fun i => n - (intOf i).toNat)
    case atStart => exact ⟨0, rfl, by omega, fun j x hj => by omega⟩
    case round =>
      obtain ⟨k, rfl, hk, hc⟩ := hrel
      by_cases hlt : k < n
      · obtain ⟨b1, o1, x, rfl, hx, hcx⟩ := hs.at_ hlt
        have hxl := hm.out x (List.mem_of_getElem? hx)
        by_cases h2 : 2000 < x.length
        · have i2 : (2000 : Int) < (x.length : Int) := by omega
          clear hx
          go_wp2_with fail
          refine (awake8_any _ HG.out).mono ?_
          rintro e w1 ⟨rfl, hb1⟩
          go_wp2_with fail
          go_ret
          exact ⟨rfl, hb1⟩
        · have i2 : ¬ (2000 : Int) < (x.length : Int) := by omega
          have HN : Hid (∀ (j : Nat) (y : List UInt8), j < k + 1 → xs[j]? = some y → y.length ≤ 2000) := by
            intro j y hj hy
            by_cases hjk : j = k
            · subst hjk; rw [hx] at hy; cases hy; omega
            · exact hc.out j y (by omega) hy
          clear hx
          go_wp2_with fail
          go_round
          case rel => exact ⟨k + 1, by go_num, by omega, HN.out⟩
          case measure => simp [intOf]; omega
      · have H2 : Hid (∀ x ∈ xs, x.length ≤ 2000) := by
          intro x hx
          obtain ⟨j, hj, e⟩ := List.mem_iff_getElem.1 hx
          exact hc.out j x (by rw [HL.out] at hj; omega) (by rw [List.getElem?_eq_getElem hj, e])
        have H3 : Hid (∀ x ∈ xs, x.length ≤ 1000000000) := fun x hx => by have := H2.out x hx; omega
        obtain ⟨v, hv⟩ : ∃ v, xs.flatten = v := ⟨_, rfl⟩
        obtain ⟨q, hq⟩ : ∃ q, hsh v = q := ⟨_, rfl⟩
        have HV := Lib.hid hv
        have HQ := Lib.hid hq
        have HQ2 : Hid (hsh xs.flatten = q) := by show _ = _; rw [hv]; exact hq
        have hvl : v.length ≤ 1000000 := by
          have h5 : ∀ (L : List (List UInt8)), (∀ x ∈ L, x.length ≤ 2000) → L.flatten.length ≤ 2000 * L.length := by
            intro L
            induction L with
            | nil => intro _; simp
            | cons y r ih =>
              intro hL
              rw [List.flatten_cons, List.length_append, List.length_cons]
              have := hL y (by simp)
              have := ih (fun x hx => hL x (by simp [hx]))
              omega
          have := h5 xs H2.out
          rw [hv, HL.out] at this
          omega
        have HS := Lib.hid hs
        clear hv hq hs
        go_wp2_with fail
        refine (shHash_eq A n c xs q _ HS.out (by omega) H3 HQ2.out).mono ?_
        rintro e w1 ⟨rfl, rfl⟩
        go_wp2_with fail
        refine (joined_eq A n c xs v _ HS.out (by omega) H2 HV.out).mono ?_
        rintro e w1 ⟨rfl, rfl⟩
        go_wp2_with fail
        refine (refHash_eq v q _ (by omega) HQ.out).mono ?_
        rintro e w1 ⟨rfl, hb1⟩
        replace hb := below_more hb hb1
        clear hb1
        go_wp2_with fail
        refine (awake8_any _ (HG.out.below hb)).mono ?_
        rintro e w1 ⟨rfl, hb1⟩
        replace hb := below_more hb hb1
        clear hb1
        go_wp2_with fail
        go_ret
        exact ⟨rfl, hb⟩
set_option maxRecDepth 100000 in
theorem lifted (os : Os) (started : os.Started) (H : Type) (enc : TypeId × Value → H) :
    ReturnsInHanded {} Tryd.checked os 3 .any (fun w args => (Rows.shardHashSpec.pre enc Tryd.prog Tryd.f3 [] false w args ∧ laidMetH Tryd.prog laidL w) ∧ sizedMet enc Tryd.prog Tryd.f3 (OpenSpec.ofChange Rows.shardHashSpec) false w args)
      (Rows.shardHashSpec.post enc Tryd.prog Tryd.f3 false true false false) := by
  refine handed_laidW (C := Tryd.checked) (X := fun w _ => laidMetH Tryd.prog laidL w) own_none started (by kernel_rfl) Tryd.func3 (laid_witness os Rows.shardHashSpec #[.slice none 0 0] (by kernel_rfl) (by kernel_rfl) (by kernel_rfl)) ?_
  intro W base args ds gs before hval0 hW hwt hsh
  have hval : ∀ (j : Nat) t v, Tryd.f3.params[j]? = some t → args[j]? = some v → Value.okWide Tryd.prog W .any base t v := hval0
  have hWk := hW
  obtain ⟨p, q, hA0, hV, hbef, _, _⟩ := hWk
  have hA : DataW.TrodAll enc Tryd.prog W 0 (fun _ => true) true Tryd.f3.params.toList args.toList ds p := hA0
  obtain ⟨rfl, rfl⟩ := trodVars_none hV
  rw [Tryd.params3] at hA hval
  obtain ⟨v0, vs0, d0, ds0, p0, q0, hargs, rfl, hp0, h0, r0⟩ := trodAll_cons hA
  obtain ⟨rfl, rfl, hpn⟩ := trodAll_nil r0
  obtain rfl : args = #[v0] := by cases args; simp_all
  obtain ⟨A0, n0, c0, xs0, rfl, hi0⟩ := open_StrsW Tryd.underlying22 Tryd.underlying9 cells_str (hval 0 22 v0 rfl rfl) h0 (fun n hn => of_decide_eq_true (List.all_eq_true.1 hwt n (DataW.weights_mem_each (j := 0) (t := 22) (by rfl) (by rfl) n hn)))
  refine (walk W (glo_of hsh) A0 n0 c0 xs0 hi0.1 hi0.2.1 (by have := hi0.2.2.1; unfold maxLen at this; omega) hi0.2.2.2).mono fun e W' ⟨he, hg⟩ => ?_
  subst he
  exact ⟨_, rfl, law_post laid_out (by kernel_rfl) rfl (by kernel_rfl) Tryd.underlying4 hW rfl hg⟩

theorem over : Rows.shardHashRow.holds Tryd.pinned (OpenSpec.ofChange Rows.shardHashSpec) :=
  OpenClaim.holds_of_wide 3 Tryd.f3 rfl rfl rfl rfl rfl rfl rfl ⟨rfl, rfl, rfl, rfl, rfl⟩ rfl rfl rfl rfl rfl (by kernel_rfl) Tryd.func3 (by kernel_rfl)
    (of_decide_eq_true (by kernel_rfl)) (by unfold Func.isWrapper; first | (rw [if_pos (by decide +kernel)]; kernel_rfl) | (rw [if_neg (by decide +kernel)]; exact ⟨rfl, rfl⟩))
    (fun os started H enc _ => lifted os started H enc)

/-- THE STATEMENT: the card. -/
theorem proved : Rows.ShardHashCardSaid :=
  Claim7.holds_tied_plain_at .later [] [.data, .pinned] true Rows.shardHashCard.stood.harness false over (fun _ h => by cases h) (by kernel_rfl) (fun _ h => by cases h) shardHash_row_tie rfl ⟨rfl, rfl⟩ (by kernel_rfl) rfl
    (fun f fn hf hfn => by
      obtain rfl : f = 3 := Option.some.inj ((show Tryd.prog.funcNamed Rows.shardHashRow.func = some 3 by kernel_rfl).symm.trans hf) |>.symm
      obtain rfl : fn = Tryd.f3 := (Option.some.inj (Tryd.func3.symm.trans hfn)).symm
      exact ⟨by kernel_rfl, fun j t ht => by
        have hm : t ∈ Tryd.f3.params.toList := by simpa using Array.mem_of_getElem? ht
        have hall : (Tryd.f3.params.toList.all fun u => !Tryd.prog.wantsStandIn u) = true := by kernel_rfl
        exact (show Tryd.prog.wantsStandIn t = false by simpa using List.all_eq_true.1 hall t hm)⟩)
    (by kernel_rfl)
end lawShardHash
end Go.Proofs.YtiiojdlmbfkkhaaDoor
