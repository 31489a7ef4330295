/-
  ShardKnown: the chapter's examples. The card.
-/
import Derived.Test.YtiiojdlmbfkkhaaDoorShLaw
import Derived.Test.YtiiojdlmbfkkhaaDoorTpLaw
import Derived.Test.YtiiojdlmbfkkhaaDoorWrFrame
import Derived.Test.YtiiojdlmbfkkhaaDoorTie
import Derived.Test.YtiiojdlmbfkkhaaDoorCards
import Derived.SevenTiedAt
import Derived.ProofKit
set_option linter.unusedSimpArgs false
set_option linter.unusedVariables false
namespace Go.Proofs.YtiiojdlmbfkkhaaDoor
open Go.RowKit Go.ChangeShapes Go.WideShapes Go.ChangeAt
open Go.ChangeMaps (open_string shut_string)
theorem ints_new (w : World) (xs : List Int) (t : TypeId) : Ints (w.alloc (.cells (xs.map (Value.int .i64)).toArray t)) (some ⟨w.heap.size, 0, none⟩) xs.length xs := by
  refine ⟨rfl, fun _ => ⟨_, _, rfl, fun j y hj => ?_⟩⟩
  rw [Nat.zero_add, cell_of_row _ w.heap.size j _ t (0, 0) (heap_alloc_new w _)]
  simp [hj]
theorem ints_new3 (w : World) (x y z : Int) (t : TypeId) : Ints (w.alloc (.cells #[.int .i64 x, .int .i64 y, .int .i64 z] t)) (some ⟨w.heap.size, 0, none⟩) 3 [x, y, z] := ints_new w [x, y, z] t
theorem hash_one (l : List UInt8) (h : Nat) (W : World) (hl : l.length ≤ 100) (hh : hsh l = h) : Calls Tryd.prog 11 #[.slice (some ⟨W.heap.size, 0, none⟩) 1 1] (W.alloc (.cells #[.string ⟨l.toArray⟩] 9)) fun e w' => e = .returned (.int .u64 (h : Int)) ∧ W.alloc (.cells #[.string ⟨l.toArray⟩] 9) = w' :=
  shHash_eq _ 1 1 [l] h _ (strs_new1 W l 9) (by omega) (by intro x hx; simp at hx; subst hx; omega) (by simpa using hh)
theorem hash_a (W : World) : Calls Tryd.prog 11 #[.slice (some ⟨W.heap.size, 0, none⟩) 1 1] (W.alloc (.cells #[.string ⟨#[97]⟩] 9)) fun e w' => e = .returned (.int .u64 12638187200555641996) ∧ W.alloc (.cells #[.string ⟨#[97]⟩] 9) = w' := hash_one [97] 12638187200555641996 W (by decide) (by decide +kernel)
theorem hash_foobar (W : World) : Calls Tryd.prog 11 #[.slice (some ⟨W.heap.size, 0, none⟩) 1 1] (W.alloc (.cells #[.string ⟨#[102, 111, 111, 98, 97, 114]⟩] 9)) fun e w' => e = .returned (.int .u64 9625390261332436968) ∧ W.alloc (.cells #[.string ⟨#[102, 111, 111, 98, 97, 114]⟩] 9) = w' := hash_one [102, 111, 111, 98, 97, 114] 9625390261332436968 W (by decide) (by decide +kernel)
theorem hash_foobar2 (W : World) (o : Obj) : Calls Tryd.prog 11 #[.slice (some ⟨W.heap.size + 1, 0, none⟩) 1 1] ((W.alloc o).alloc (.cells #[.string ⟨#[102, 111, 111, 98, 97, 114]⟩] 9)) fun e w' => e = .returned (.int .u64 9625390261332436968) ∧ (W.alloc o).alloc (.cells #[.string ⟨#[102, 111, 111, 98, 97, 114]⟩] 9) = w' := by
  have h := hash_foobar (W.alloc o)
  rw [show (W.alloc o).heap.size = W.heap.size + 1 by simp] at h
  exact h
theorem hash_no (W : World) : Calls Tryd.prog 11 #[.slice none 0 0] W fun e w' => e = .returned (.int .u64 14695981039346656037) ∧ W = w' := shHash_eq none 0 0 [] 14695981039346656037 W (Strs.nil _) (by omega) (by intro x hx; cases hx) (by decide +kernel)
namespace lawShardKnown
set_option maxHeartbeats 4000000 in
set_option maxRecDepth 100000 in
theorem walk (w : World) (hG : Glo w) :
    Calls Tryd.prog 5 #[] w fun e w' => e = .returned (.bool true) ∧ Below w.heap.size w w' := by
  have HG := Lib.hid hG
  have hb : Below w.heap.size w w := Below.refl _ _
  clear hG
  go_enter Tryd.func5, Tryd.ntmps5
  go_wp2_with fail
  refine (hash_no _).mono ?_
  rintro e w1 ⟨rfl, rfl⟩
  go_wp2_with fail
  refine (hash_a _).mono ?_
  rintro e w1 ⟨rfl, rfl⟩
  replace hb := below_alloc hb (.cells #[.string ⟨#[97]⟩] 9)
  go_wp2_with fail
  refine (hash_foobar2 _ _).mono ?_
  rintro e w1 ⟨rfl, rfl⟩
  replace hb := below_alloc hb (.cells #[.string ⟨#[102, 111, 111, 98, 97, 114]⟩] 9)
  go_wp2_with fail
  refine (home_eq [97] 4 0 _ (by decide) (by decide +kernel)).mono ?_
  rintro e w1 ⟨rfl, hb1⟩
  replace hb := below_more hb hb1
  clear hb1
  go_wp2_with fail
  refine (home_eq [97] 65 (-1) _ (by decide) (by decide +kernel)).mono ?_
  rintro e w1 ⟨rfl, hb1⟩
  replace hb := below_more hb hb1
  clear hb1
  go_wp2_with fail
  refine (gate_eq 1 4 0 _ (by decide) (by decide +kernel)).mono ?_
  rintro e w1 ⟨rfl, rfl⟩
  go_wp2_with fail
  refine (gate_eq 6 4 1 _ (by decide) (by decide +kernel)).mono ?_
  rintro e w1 ⟨rfl, rfl⟩
  go_wp2_with fail
  refine (gate_eq 0 4 (-1) _ (by decide) (by decide +kernel)).mono ?_
  rintro e w1 ⟨rfl, rfl⟩
  go_wp2_with fail
  refine (hub_eq [97, 47, 98] 4 0 _ (HG.out.below hb) (by decide) (by decide +kernel)).mono ?_
  rintro e w1 ⟨rfl, hb1⟩
  replace hb := below_more hb hb1
  clear hb1
  go_wp2_with fail
  refine (hub_eq [43] 4 (-1) _ (HG.out.below hb) (by decide) (by decide +kernel)).mono ?_
  rintro e w1 ⟨rfl, hb1⟩
  replace hb := below_more hb hb1
  clear hb1
  go_wp2_with fail
  refine (hubs_eq [97, 47, 35] 4 [0] _ (HG.out.below hb) (by decide) (by decide +kernel)).mono ?_
  rintro e w4 ⟨A1, c1, rfl, hs1, _, hb2⟩
  replace hb := below_more hb hb2
  clear hb2
  go_wp2_with fail
  refine (sameInts_eq _ 1 c1 [0] _ 1 1 [0] true _ (hs1.below ((Below.refl _ _).alloc (Nat.le_refl _) _)) (ints_new1 _ _ _) (by omega) (by decide)).mono ?_
  rintro e w3 ⟨rfl, hb3⟩
  replace hb := below_more (below_alloc hb _) hb3
  clear hb3 hs1
  go_wp2_with fail
  refine (hubs_eq [43, 47, 97] 3 [0, 1, 2] _ (HG.out.below hb) (by decide) (by decide +kernel)).mono ?_
  rintro e w4 ⟨A2, c2, rfl, hs2, _, hb2⟩
  replace hb := below_more hb hb2
  clear hb2
  go_wp2_with fail
  refine (sameInts_eq _ 3 c2 [0, 1, 2] _ 3 3 [0, 1, 2] true _ (hs2.below ((Below.refl _ _).alloc (Nat.le_refl _) _)) (ints_new3 _ _ _ _ _) (by omega) (by decide)).mono ?_
  rintro e w3 ⟨rfl, hb3⟩
  replace hb := below_more (below_alloc hb _) hb3
  clear hb3 hs2
  go_wp2_with fail
  refine (hubs_eq [97, 43] 3 [] _ (HG.out.below hb) (by decide) (by decide +kernel)).mono ?_
  rintro e w4 ⟨A3, c3, rfl, hs3, hcc3, hb2⟩
  clear hs3 hcc3
  rw [List.length_nil]
  replace hb := below_more hb hb2
  clear hb2
  go_wp2_with fail
  refine (hubs_eq [35] 0 [] _ (HG.out.below hb) (by decide) (by decide +kernel)).mono ?_
  rintro e w4 ⟨A4, c4, rfl, hs4, hcc4, hb2⟩
  clear hs4 hcc4
  rw [List.length_nil]
  replace hb := below_more hb hb2
  clear hb2
  go_wp2_with fail
  refine (refWild_eq [43, 47, 97] true _ (by decide) (by decide +kernel)).mono ?_
  rintro e w1 ⟨rfl, hb1⟩
  replace hb := below_more hb hb1
  clear hb1
  go_wp2_with fail
  refine (awake8_any _ (HG.out.below hb)).mono ?_
  rintro e w1 ⟨rfl, hb1⟩
  replace hb := below_more hb hb1
  clear hb1
  go_wp2_with fail
  go_ret
  exact ⟨rfl, hb⟩
set_option maxRecDepth 100000 in
theorem lifted (os : Os) (started : os.Started) (H : Type) (enc : TypeId × Value → H) :
    ReturnsInHanded {} Tryd.checked os 5 .any (fun w args => (Rows.shardKnownSpec.pre enc Tryd.prog Tryd.f5 [] false w args ∧ laidMetH Tryd.prog laidL w) ∧ sizedMet enc Tryd.prog Tryd.f5 (OpenSpec.ofChange Rows.shardKnownSpec) false w args)
      (Rows.shardKnownSpec.post enc Tryd.prog Tryd.f5 false true false false) := by
  refine handed_laid (C := Tryd.checked) (X := fun w _ => laidMetH Tryd.prog laidL w) own_none started (by kernel_rfl) Tryd.func5 (laid_witness os Rows.shardKnownSpec #[] (by kernel_rfl) (by kernel_rfl) (by kernel_rfl)) ?_
  intro W base args ds gs before hval0 hW hsh
  have hval : ∀ (j : Nat) t v, Tryd.f5.params[j]? = some t → args[j]? = some v → Value.okWide Tryd.prog W .any base t v := hval0
  have hWk := hW
  obtain ⟨p, q, hA0, hV, hbef, _, _⟩ := hWk
  have hA : DataW.TrodAll enc Tryd.prog W 0 (fun _ => true) true Tryd.f5.params.toList args.toList ds p := hA0
  obtain ⟨rfl, rfl⟩ := trodVars_none hV
  rw [Tryd.params5] at hA hval
  obtain ⟨hargs, rfl, hpn⟩ := trodAll_nil hA
  obtain rfl : args = #[] := by cases args; simp_all
  refine (walk W (glo_of hsh) ).mono fun e W' ⟨he, hg⟩ => ?_
  subst he
  exact ⟨_, rfl, law_post laid_out (by kernel_rfl) rfl (by kernel_rfl) Tryd.underlying4 hW rfl hg⟩

theorem over : Rows.shardKnownRow.holds Tryd.pinned (OpenSpec.ofChange Rows.shardKnownSpec) :=
  OpenClaim.holds_of_wide 5 Tryd.f5 rfl rfl rfl rfl rfl rfl rfl ⟨rfl, rfl, rfl, rfl, rfl⟩ rfl rfl rfl rfl rfl (by kernel_rfl) Tryd.func5 (by kernel_rfl)
    (of_decide_eq_true (by kernel_rfl)) (by unfold Func.isWrapper; first | (rw [if_pos (by decide +kernel)]; kernel_rfl) | (rw [if_neg (by decide +kernel)]; exact ⟨rfl, rfl⟩))
    (fun os started H enc _ => lifted os started H enc)

/-- THE STATEMENT: the card. -/
theorem proved : Rows.ShardKnownCardSaid :=
  Claim7.holds_tied_plain_at .later [] [.data, .pinned] true Rows.shardKnownCard.stood.harness false over (fun _ h => by cases h) (by kernel_rfl) (fun _ h => by cases h) shardKnown_row_tie rfl ⟨rfl, rfl⟩ (by kernel_rfl) rfl
    (fun f fn hf hfn => by
      obtain rfl : f = 5 := Option.some.inj ((show Tryd.prog.funcNamed Rows.shardKnownRow.func = some 5 by kernel_rfl).symm.trans hf) |>.symm
      obtain rfl : fn = Tryd.f5 := (Option.some.inj (Tryd.func5.symm.trans hfn)).symm
      exact ⟨by kernel_rfl, fun j t ht => by
        have hm : t ∈ Tryd.f5.params.toList := by simpa using Array.mem_of_getElem? ht
        have hall : (Tryd.f5.params.toList.all fun u => !Tryd.prog.wantsStandIn u) = true := by kernel_rfl
        exact (show Tryd.prog.wantsStandIn t = false by simpa using List.all_eq_true.1 hall t hm)⟩)
    (by kernel_rfl)
end lawShardKnown
end Go.Proofs.YtiiojdlmbfkkhaaDoor
