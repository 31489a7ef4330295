/-
  FramePlays: the walk.
-/
import Derived.Test.YtnaedcennichlaaGreatDoorFpPlA
set_option linter.unusedSimpArgs false
set_option linter.unusedVariables false
namespace Go.Proofs.YtnaedcennichlaaGreatDoor
section
open Go.RowKit
def oFpPlays1 : Oper := ({ dst := some 112, op := Go.Op.move (Go.Operand.tmp 7), type := 26, pos := "law.go:153", after := #[], guard := none } : Oper)
def oFpPlays2 : Oper := ({ dst := some 114, op := Go.Op.move (Go.Operand.tmp 8), type := 28, pos := "law.go:153", after := #[], guard := none } : Oper)
def oFpPlays3 : Oper := ({ dst := some 115, op := Go.Op.nilCheck (Go.Operand.tmp 114), type := 0, pos := "law.go:153", after := #[{ on := 2, ground := Go.Ground.data }], guard := none } : Oper)
def oFpPlays4 : Oper := ({ dst := some 116, op := Go.Op.fieldAddr 45 (Go.Operand.tmp 115) 1, type := 0, pos := "law.go:153", after := #[{ on := 3, ground := Go.Ground.data }], guard := none } : Oper)
def oFpPlays5 : Oper := ({ dst := some 117, op := Go.Op.load 9 (Go.Operand.tmp 116), type := 9, pos := "law.go:153", after := #[{ on := 4, ground := Go.Ground.data }], guard := none } : Oper)
def oFpPlays6 : Oper := ({ dst := some 118, op := Go.Op.call { callee := Go.Callee.builtin Go.Builtin.len, args := #[Go.Operand.tmp 117], argTypes := #[9] }, type := 3, pos := "law.go:153", after := #[{ on := 5, ground := Go.Ground.data }], guard := none } : Oper)
def oFpPlays7 : Oper := ({ dst := some 113, op := Go.Op.call { callee := Go.Callee.value (Go.Operand.func 13), args := #[Go.Operand.tmp 112], argTypes := #[26] }, type := 3, pos := "law.go:153", after := #[{ on := 0, ground := Go.Ground.data }], guard := none } : Oper)
def oFpPlays8 : Oper := ({ dst := some 119, op := Go.Op.binOp Go.BinOp.neq 3 (Go.Operand.tmp 113) (Go.Operand.tmp 118) 3, type := 4, pos := "law.go:153", after := #[{ on := 1, ground := Go.Ground.data }, { on := 6, ground := Go.Ground.data }], guard := none } : Oper)
end
open Go.RowKit
set_option maxRecDepth 100000
theorem flat_take (ss : List (List UInt8)) (k : Nat) (x : List UInt8) (h : ss[k]? = some x) : (ss.take (k + 1)).flatten = (ss.take k).flatten ++ x := by
  rw [List.take_add_one, h]; simp
theorem flat_le (ss : List (List UInt8)) (k : Nat) : (ss.take k).flatten.length ≤ ss.flatten.length := by
  conv => rhs; rw [← List.take_append_drop k ss]
  rw [List.flatten_append, List.length_append]
  omega
namespace lawFramePlays
set_option maxHeartbeats 16000000 in
theorem walk (w : World) (hG : Glo w) (most : Int) (hmo : (Lit.int .i64 most).wf = true) (A : Option Addr) (n c : Nat) (ss : List (List UInt8)) (hs : Strs w A n ss) (hn : n ≤ 9223372036854775807) (hl : Hid (∀ x ∈ ss, x.length ≤ 9223372036854775807))
    (A2 : Option Addr) (n2 c2 : Nat) (hbs : U8s w A2 n2) (hn2 : n2 ≤ 9223372036854775807) :
    Calls Tryz.prog 3 #[.int .i64 most, .slice A n c, .slice A2 n2 c2] w fun e w' => e = .returned (.bool true) ∧ Below w.heap.size w w' := by
  have HGL := Lib.hid hG
  have HG : Hid (∀ w', Below w.heap.size w w' → Glo w') := fun w' h => hG.below h
  have HS := Lib.hid hs
  have HBS := Lib.hid hbs
  have hlen := Lib.hid hs.len
  clear hG hs hbs hmo
  go_enter Tryz.func3, Tryz.ntmps3
  go_wp2_with fail
  refine (fgreat_any A n c ss _ HS.out hl.out hn).mono ?_
  rintro e w1 ⟨gr, rfl, rfl, hgr⟩
  cases gr with
  | true =>
    go_wp2_with fail
    refine (awake6_any _ HGL.out).mono ?_
    rintro e w2 ⟨rfl, hb2⟩
    go_wp2_with fail
    go_ret
    exact ⟨rfl, hb2⟩
  | false =>
    obtain ⟨hl20, hn200⟩ := hgr rfl
    clear hgr
    by_cases hmm : most < 16 ∨ 65536 < most
    · go_wp2_with fail
      refine (frNone _ most hmm).mono ?_
      rintro e w2 ⟨rfl, rfl⟩
      go_wp2_with fail
      refine (rfNone _ most hmm).mono ?_
      rintro e w3 ⟨rfl, rfl⟩
      clear hmm
      go_wp2_with fail
      refine (awake6_any _ HGL.out).mono ?_
      rintro e w2 ⟨rfl, hb2⟩
      go_wp2_with fail
      go_ret
      exact ⟨rfl, hb2⟩
    · have hm0 : 16 ≤ most := by omega
      have hm1 : most ≤ 65536 := by omega
      clear hmm
      go_wp2_with fail
      refine (frNew _ most hm0 hm1).mono ?_
      rintro e w2 ⟨g1, rfl, hb2, _, hF2⟩
      have HF2 := Lib.hid hF2
      clear hF2
      go_wp2_with fail
      refine (rfNew _ most hm0 hm1).mono ?_
      rintro e w3 ⟨g2, rfl, hb3, hg2, hR3⟩
      replace hg2 : w1.heap.size ≤ g2 := Nat.le_trans hb2.size hg2
      have HF3 := Lib.hid (HF2.out.below hb3)
      have HR3 := Lib.hid hR3
      have HB3 := Lib.hid (below_more hb2 hb3)
      clear hb2 hb3 hR3 HF2
      go_wp2_with fail
      go_loopw [9] (fun i wr => ∃ (k : Nat) (b : List UInt8) (f : Int) (o : Option Nat), i = .int .i64 k ∧ k ≤ n ∧ Hid (Fr w1.heap.size wr g1 o most b f) ∧ Hid (RF wr g2 most b f) ∧ Hid (Below w1.heap.size w1 wr) ∧ Hid (b.length ≤ (ss.take k).flatten.length)) (fun i _ => n - (intOf i).toNat)
      case atStart => exact ⟨0, [], 0, none, rfl, by omega, HF3, HR3, HB3, by show _ ≤ _; simp⟩
      case round =>
        clear HF3 HR3 HB3
        obtain ⟨k, b, f, o, rfl, hk, HF, HR, HB, HL⟩ := hrel
        by_cases hlt : k < n
        · have hlt2 : (k : Int) < (n : Int) := by omega
          obtain ⟨blk, off, x, hA, hx, hcell0⟩ := HS.out.at_ hlt
          subst hA
          have hblt := World.block_lt_of_cell? _ _ hcell0
          have hcell := (HB.out.cell (p := ⟨blk, off + k, none⟩) hblt).trans hcell0
          have hfl := flat_le ss (k + 1)
          have hft := flat_take ss k x hx
          have hfx : (ss.take (k + 1)).flatten.length = (ss.take k).flatten.length + x.length := by rw [hft, List.length_append]
          have HFL : Hid ((ss.take (k + 1)).flatten.length ≤ 20000) := Nat.le_trans hfl hl20
          have hbx : b.length + x.length ≤ 20000 := by have := HL.out; have := HFL.out; omega
          have HL1x : Hid ((b ++ x).length ≤ (ss.take (k + 1)).flatten.length) := by show _ ≤ _; rw [List.length_append]; have := HL.out; omega
          have HL1y : Hid (b.length ≤ (ss.take (k + 1)).flatten.length) := by show _ ≤ _; have := HL.out; omega
          clear hft hfx hfl hx
          by_cases hf0 : f = 0
          · subst hf0
            go_wp2_with fail
            refine (frPush HF.out x (by omega)).mono ?_
            rintro e w4 ⟨rfl, o4, hF4, hd4, hn4⟩
            have HR4 := Lib.hid (HR.out.keep HF.out hd4)
            have HB4 := Lib.hid (HF.out.step hd4 HB.out)
            have HF4 := Lib.hid hF4
            have hcell4 := (HB4.out.cell (p := ⟨blk, off + k, none⟩) hblt).trans hcell0
            clear hcell hF4 hd4 hn4 HF HR HB
            go_wp2_with fail
            refine (rfPush HR4.out x (by omega)).mono ?_
            rintro e w5 ⟨rfl, hR5, hd5⟩
            have HF1 := Lib.hid (HF4.out.keepR HR4.out hd5)
            have HB1 := Lib.hid (HB4.out.trans (hd5.below hg2 (fun b h => by cases h) HB4.out.size))
            have HR1 := Lib.hid hR5
            have HL1 := HL1x
            clear HL1x HL1y HL hcell4 hR5 hd5 HF4 HR4 HB4 hcell0
            generalize b ++ x = b1 at HF1 HR1 HL1
            obtain ⟨f1, hf1⟩ : ∃ f1 : Int, f1 = 0 := ⟨_, rfl⟩
            rw [← hf1] at HF1 HR1
            clear hf1
            obtain ⟨o1, ho1⟩ : ∃ o1, o1 = o4 := ⟨_, rfl⟩
            rw [← ho1] at HF1
            clear ho1
            by_cases hask : k < n2
            · have hask2 : (k : Int) < (n2 : Int) := by omega
              obtain ⟨b9, off9, e9, _, hc9⟩ := (HBS.out.below HB1.out) (by omega)
              obtain ⟨v, hv0, hv1, hcell9⟩ := hc9 k hask
              subst e9
              obtain ⟨q, hq⟩ : ∃ q : Nat, v % 8 = (q : Int) := ⟨(v % 8).toNat, by omega⟩
              have hq7 : q ≤ 7 := by omega
              have hm8 : v.tmod 8 = (q : Int) := by rw [Int.tmod_eq_emod_of_nonneg hv0, hq]
              have hw8 : IntKind.u8.wrap (q : Int) = (q : Int) := IntWalk.u8_in _ (by omega)
              have hw64 : IntKind.i64.wrap (q : Int) = (q : Int) := IntWalk.i64_in _ (by omega)
              clear hc9 hq
              go_wp2_with fail
              go_loopw [11] (fun kk wr2 => ∃ (j : Nat) (b2 : List UInt8) (f2 : Int) (o2 : Option Nat), kk = .int .i64 j ∧ j ≤ q ∧ Hid (Fr w1.heap.size wr2 g1 o2 most b2 f2) ∧ Hid (RF wr2 g2 most b2 f2) ∧ Hid (Below w1.heap.size w1 wr2) ∧ Hid (b2.length ≤ (ss.take (k + 1)).flatten.length)) (fun kk _ => q - (intOf kk).toNat)
              case atStart => exact ⟨0, b1, f1, o1, rfl, by omega, HF1, HR1, HB1, HL1⟩
              case round =>
                clear HF1 HR1 HB1 HL1
                obtain ⟨j, b2, f2, o2, rfl, hj, HF2, HR2, HB2, HL2⟩ := hrel
                obtain ⟨wm, hwm⟩ : ∃ wm : World, wm = wr := ⟨_, rfl⟩
                rw [← hwm] at HF2 HR2 HB2 ⊢
                clear hwm
                have hl2 : b2.length ≤ 20000 := by have := HL2.out; have := HFL.out; omega
                by_cases hjq : j < q
                · have hjI : (j : Int) < (q : Int) := by omega
                  obtain ⟨P, X, r, er, b3, f3, hnx⟩ : ∃ P X r er b3 f3, nxR most b2 f2 = ((P, X), r, er, b3, f3) := ⟨_, _, _, _, _, _, rfl⟩
                  obtain ⟨hX, hb3⟩ := nx_bd most b2 f2 hm1 P X r er b3 f3 hnx
                  have HL3 : Hid (b3.length ≤ (ss.take (k + 1)).flatten.length) := Nat.le_trans hb3 HL2.out
                  have HNX := Lib.hid hnx
                  clear hnx
                  go_wp2_with fail
                  refine (frNext_any HF2.out (glo_c HG.out HB2.out) (by omega) P X r er b3 f3 HNX.out).mono ?_
                  rintro e w5 ⟨⟨A5, c5, rfl, hS5, hc5, ht5⟩, o5, hF5, hd5, hn5⟩
                  have hR5 := HR2.out.keep HF2.out hd5
                  have hB5 := HF2.out.step hd5 HB2.out
                  have ht5b := subT_base ht5 HB2.out.size
                  obtain ⟨w6, hw6⟩ : ∃ w6, w6 = w5.alloc (.cells (PkC P A5 X.length c5) 36) := ⟨_, rfl⟩
                  have hba : Below w5.heap.size w5 w6 := by rw [hw6]; exact (Below.refl w5.heap.size w5).alloc (Nat.le_refl _) _
                  have HP6 : Hid (w6.heap[w5.heap.size]? = some (.cells (PkC P A5 X.length c5) 36 (0, 0))) := by show _ = _; rw [hw6]; exact heap_alloc_new w5 _
                  have HF6 := Lib.hid (hF5.below hba)
                  have HR6 := Lib.hid (hR5.below hba)
                  have HB6 := Lib.hid (below_more hB5 hba)
                  have HS6 := Lib.hid (hS5.below hba)
                  have HT6 := Lib.hid (subT_keep ht5b (.of_below hba))
                  clear hF5 hR5 hB5 hS5 ht5 ht5b hba hd5 hn5 HF2 HR2 HB2 HL2
                  go_wp2_with fail
                  rw [← hw6]
                  clear hw6
                  generalize w5.heap.size = h12 at HP6 ⊢
                  refine (rfNext_any HR6.out (by omega) P X r er b3 f3 HNX.out).mono ?_
                  rintro e w7 ⟨A7, c7, rfl, hS7, hc7, hR7, hd7⟩
                  have hks := HR6.out.keepS hd7
                  have hS7p := subs_keep HS6.out HT6.out hks
                  have hT7 := subT_keep HT6.out hks
                  have hP7 := HR6.out.other hd7 HP6.out (by decide)
                  have hF7 := HF6.out.keepR HR6.out hd7
                  have hB7 : Below w1.heap.size w1 w7 := HB6.out.trans (hd7.below hg2 (fun b h => by cases h) HB6.out.size)
                  obtain ⟨w8, hw8⟩ : ∃ w8, w8 = w7.alloc (.cells (PkC P A7 X.length c7) 36) := ⟨_, rfl⟩
                  have hbb : Below w7.heap.size w7 w8 := by rw [hw8]; exact (Below.refl w7.heap.size w7).alloc (Nat.le_refl _) _
                  have hP8q : w8.heap[w7.heap.size]? = some (.cells (PkC P A7 X.length c7) 36 (0, 0)) := by rw [hw8]; exact heap_alloc_new w7 _
                  have hP8 := (hbb.block _ (Array.getElem?_eq_some_iff.1 hP7).1).trans hP7
                  have HF8 := Lib.hid (hF7.below hbb)
                  have HR8 := Lib.hid (hR7.below hbb)
                  have HB8 := Lib.hid (below_more hB7 hbb)
                  have HS8p := Lib.hid (hS7p.below hbb)
                  have HS8 := Lib.hid (hS7.below hbb)
                  have HT8 := Lib.hid (subT_keep hT7 (.of_below hbb))
                  have HP8 := Lib.hid hP8
                  obtain ⟨d1, d2, d3, d4, d5⟩ := blk_row hP7
                  have hrr : (r != r) = false := by simp
                  have hrr2 : (r == r) = true := by simp
                  have hee : (er != er) = false := by simp
                  have hee2 : (er == er) = true := by simp
                  clear hF7 hR7 hB7 hS7p hS7 hT7 hP7 hbb hd7 hks HF6 HR6 HB6 HS6 HT6 HP6 hP8 hP8q hc7
                  go_wp2_with fail
                  rw [← hw8]
                  clear hw8 d1 d2 d3 d4 d5 hrr hrr2 hee hee2
                  generalize w7.heap.size = h15
                  refine (refSame_one P A5 A7 X.length X.length c5 c7 X _ HS8p.out HS8.out (by omega)).mono ?_
                  rintro e w9 ⟨rfl, hb9⟩
                  have HF9 := Lib.hid (HF8.out.below hb9)
                  have HR9 := Lib.hid (HR8.out.below hb9)
                  have HB9 := Lib.hid (below_more HB8.out hb9)
                  have hP9 := (hb9.block _ (Array.getElem?_eq_some_iff.1 HP8.out).1).trans HP8.out
                  have HW9 := Lib.hid (subW_of (HS8p.out.below hb9) (subT_keep HT8.out (.of_below hb9)))
                  have HP9 := Lib.hid hP9
                  clear hP9 hb9 HF8 HR8 HB8 HS8p HS8 HT8 HP8
                  obtain ⟨nX, hnX⟩ : ∃ nX, nX = X.length := ⟨_, rfl⟩
                  rw [← hnX] at HW9 HP9 hX
                  try rw [← hnX]
                  clear hnX
                  go_wp2_with fail
                  go_loopw [18] (fun jj wr3 => ∃ j3 : Nat, jj = .int .i64 j3 ∧ j3 ≤ nX ∧ Hid (Fr w1.heap.size wr3 g1 o5 most b3 f3) ∧ Hid (RF wr3 g2 most b3 f3) ∧ Hid (Below w1.heap.size w1 wr3) ∧ Hid (SubW w1.heap.size wr3 A5 nX) ∧ Hid (wr3.heap[h12]? = some (.cells (PkC P A5 nX c5) 36 (0, 0)))) (fun jj _ => nX - (intOf jj).toNat)
                  case atStart => exact ⟨0, rfl, by omega, HF9, HR9, HB9, HW9, HP9⟩
                  case round =>
                    clear HF9 HR9 HB9 HW9 HP9
                    obtain ⟨j3, rfl, hj3, HF9, HR9, HB9, HW9, HP9⟩ := hrel
                    obtain ⟨d1, d2, d3, d4, d5⟩ := blk_row HP9.out
                    by_cases hlt3 : j3 < nX
                    · have hlt3I : (j3 : Int) < (nX : Int) := by omega
                      obtain ⟨bs, off, cur, rfl, hbs, hcur, hsz⟩ := HW9.out (by omega)
                      obtain ⟨s1, s2, s3, s4, s5⟩ := blk_row hcur
                      have hidx : off + j3 * 2 < cur.size := by omega
                      have hcl : wr.cell? ⟨bs, off + j3 * 2, none⟩ = some cur[off + j3 * 2] := by rw [s3]; exact Array.getElem?_eq_getElem hidx
                      have hfz := s5 (off + j3 * 2)
                      have HF10 := Lib.hid (HF9.out.setP (cs' := cur.setIfInBounds (off + j3 * 2) (.string ⟨[115, 112, 111, 105, 108, 116].toArray⟩)) hcur (by decide) (by decide))
                      have HR10 := Lib.hid (HR9.out.setP (cs' := cur.setIfInBounds (off + j3 * 2) (.string ⟨[115, 112, 111, 105, 108, 116].toArray⟩)) hcur (by decide))
                      have HB10 := Lib.hid (below_setRow HB9.out hbs (cur.setIfInBounds (off + j3 * 2) (.string ⟨[115, 112, 111, 105, 108, 116].toArray⟩)))
                      have hneP : h12 ≠ bs := by
                        rintro rfl
                        have h9 := HP9.out
                        rw [hcur] at h9
                        injection h9 with h9
                        injection h9 with _ h9 _
                        revert h9
                        decide
                      have HP10 := Lib.hid ((setRow_other wr bs h12 (cur.setIfInBounds (off + j3 * 2) (.string ⟨[115, 112, 111, 105, 108, 116].toArray⟩)) hneP).trans HP9.out)
                      have HW10 : Hid (SubW w1.heap.size (wr.setRow bs (cur.setIfInBounds (off + j3 * 2) (.string ⟨[115, 112, 111, 105, 108, 116].toArray⟩))) (some ⟨bs, off, none⟩) nX) := fun _ => ⟨bs, off, _, rfl, hbs, setRow_heap wr bs _ _ _ _ hcur, by simpa using hsz⟩
                      clear hcur HF9 HR9 HB9 HW9 HP9 hsz s3 s5
                      go_wp2_with fail
                      go_roundw
                      case rel => exact ⟨j3 + 1, by go_num, by omega, HF10, HR10, HB10, HW10, HP10⟩
                      case measure => simp [intOf]; omega
                    · have hge3 : ¬ (j3 : Int) < (nX : Int) := by omega
                      go_wp2_with fail
                      clear d1 d2 d3 d4 d5
                      go_roundw
                      case rel => exact ⟨j + 1, b3, f3, o5, by go_num, by omega, HF9, HR9, HB9, HL3⟩
                      case measure => simp [intOf]; omega
                · have hjI : ¬ (j : Int) < (q : Int) := by omega
                  obtain ⟨d1, d2, d3, d4, d5⟩ := blk_row HR2.out
                  have hll : ((b2.length : Int) != (b2.length : Int)) = false := by simp
                  have hll2 : ((b2.length : Int) == (b2.length : Int)) = true := by simp
                  go_wp2_with fail
                  clear d1 d2 d3 d4 d5
                  refine wp_region_held_drew (S := (fun w' => Below wm.heap.size wm w')) (by kernel_rfl) ((Below.refl _ _).drew) (fun hHeld => ?_)
                  refine tkY 0 oFpPlays1 ?vv7_0 rfl (by kernel_rfl) (by kernel_rfl) (by kernel_rfl) (fun _ _ _ h => h) (by rfl) ?hy7_0 (by assumption) ?rest7_0
                  case hy7_0 => (intro w hSw; unfold oFpPlays1; (try dsimp only at hSw); (try go_split_ands); go_simp; all_goals with_reducible rfl)
                  try simp only [oFpPlays1, Act.put, sA, sB, sC]
                  refine tkY 2 oFpPlays2 ?vv7_2 rfl (by kernel_rfl) (by kernel_rfl) (by kernel_rfl) (fun _ _ _ h => h) (by rfl) ?hy7_2 (by assumption) ?rest7_2
                  case hy7_2 => (intro w hSw; unfold oFpPlays2; (try dsimp only at hSw); (try go_split_ands); go_simp; all_goals with_reducible rfl)
                  try simp only [oFpPlays2, Act.put, sA, sB, sC]
                  refine tkY 3 oFpPlays3 ?vv7_3 rfl (by kernel_rfl) (by kernel_rfl) (by kernel_rfl) (fun _ _ _ h => h) (by rfl) ?hy7_3 (by assumption) ?rest7_3
                  case hy7_3 => (intro w hSw; unfold oFpPlays3; (try dsimp only at hSw); (try go_split_ands); go_simp; all_goals with_reducible rfl)
                  try simp only [oFpPlays3, Act.put, sA, sB, sC]
                  refine tkY 4 oFpPlays4 ?vv7_4 rfl (by kernel_rfl) (by kernel_rfl) (by kernel_rfl) (fun _ _ _ h => h) (by rfl) ?hy7_4 (by assumption) ?rest7_4
                  case hy7_4 => (intro w hSw; unfold oFpPlays4; (try dsimp only at hSw); (try go_split_ands); go_simp; all_goals with_reducible rfl)
                  try simp only [oFpPlays4, Act.put, sA, sB, sC]
                  refine tkY 5 oFpPlays5 ?vv7_5 rfl (by kernel_rfl) (by kernel_rfl) (by kernel_rfl) (fun _ _ _ h => h) (by rfl) ?hy7_5 (by assumption) ?rest7_5
                  case hy7_5 => (intro w hSw; unfold oFpPlays5; (try dsimp only at hSw); have ⟨d1, d2, d3, d4, d5⟩ := blk_row (HR2.out.below hSw); go_simp; all_goals with_reducible rfl)
                  try simp only [oFpPlays5, Act.put, sA, sB, sC]
                  refine tkY 6 oFpPlays6 ?vv7_6 rfl (by kernel_rfl) (by kernel_rfl) (by kernel_rfl) (fun _ _ _ h => h) (by rfl) ?hy7_6 (by assumption) ?rest7_6
                  case hy7_6 => (intro w hSw; unfold oFpPlays6; (try dsimp only at hSw); (try go_split_ands); go_simp; all_goals with_reducible rfl)
                  try simp only [oFpPlays6, Act.put, sA, sB, sC]
                  refine wpAnyH_ready (rs := [1]) (by kernel_rfl) (by simp) ?_
                  refine AllReadyH.cons (o := oFpPlays7) rfl (fun K hK => ?_) AllReadyH.nil
                  unfold oFpPlays7
                  go_simp
                  (go_at_call 13; refine (frLeft' (HF2.out.below hHeld) (by omega)).mono ?_; rintro e w6 ⟨rfl, hb6⟩)
                  refine hK.out _ _ ?_ (fun hHeld => ?_)
                  · (exact below_more hHeld hb6)
                  clear hK K
                  try simp only [oFpPlays7, Act.put, sA, sB, sC]
                  refine tkY 7 oFpPlays8 ?vv7_7 rfl (by kernel_rfl) (by kernel_rfl) (by kernel_rfl) (fun _ _ _ h => h) (by rfl) ?hy7_7 (by assumption) ?rest7_7
                  case hy7_7 => (intro w hSw; unfold oFpPlays8; (try dsimp only at hSw); (try go_split_ands); go_simp; all_goals with_reducible rfl)
                  try simp only [oFpPlays8, Act.put, sA, sB, sC]
                  refine wpAnyH_done (by kernel_rfl) ?_ _
                  have HF4 := Lib.hid (HF2.out.below hHeld)
                  have HR4 := Lib.hid (HR2.out.below hHeld)
                  have HB4 := Lib.hid (below_more HB2.out hHeld)
                  clear hHeld HF2 HR2 HB2
                  go_wp2_with fail
                  go_roundw
                  case rel => exact ⟨k + 1, b2, f2, o2, by go_num, by omega, HF4, HR4, HB4, HL2⟩
                  case measure => simp [intOf]; omega
            · have hask2 : ¬ (k : Int) < (n2 : Int) := by omega
              go_wp2_with fail
              go_loopw [11] (fun kk wr2 => ∃ (j : Nat) (b2 : List UInt8) (f2 : Int) (o2 : Option Nat), kk = .int .i64 j ∧ j ≤ 1 ∧ Hid (Fr w1.heap.size wr2 g1 o2 most b2 f2) ∧ Hid (RF wr2 g2 most b2 f2) ∧ Hid (Below w1.heap.size w1 wr2) ∧ Hid (b2.length ≤ (ss.take (k + 1)).flatten.length)) (fun kk _ => 1 - (intOf kk).toNat)
              case atStart => exact ⟨0, b1, f1, o1, rfl, by omega, HF1, HR1, HB1, HL1⟩
              case round =>
                clear HF1 HR1 HB1 HL1
                obtain ⟨j, b2, f2, o2, rfl, hj, HF2, HR2, HB2, HL2⟩ := hrel
                obtain ⟨wm, hwm⟩ : ∃ wm : World, wm = wr := ⟨_, rfl⟩
                rw [← hwm] at HF2 HR2 HB2 ⊢
                clear hwm
                have hl2 : b2.length ≤ 20000 := by have := HL2.out; have := HFL.out; omega
                by_cases hjq : j < 1
                · have hjI : (j : Int) < 1 := by omega
                  obtain ⟨P, X, r, er, b3, f3, hnx⟩ : ∃ P X r er b3 f3, nxR most b2 f2 = ((P, X), r, er, b3, f3) := ⟨_, _, _, _, _, _, rfl⟩
                  obtain ⟨hX, hb3⟩ := nx_bd most b2 f2 hm1 P X r er b3 f3 hnx
                  have HL3 : Hid (b3.length ≤ (ss.take (k + 1)).flatten.length) := Nat.le_trans hb3 HL2.out
                  have HNX := Lib.hid hnx
                  clear hnx
                  go_wp2_with fail
                  refine (frNext_any HF2.out (glo_c HG.out HB2.out) (by omega) P X r er b3 f3 HNX.out).mono ?_
                  rintro e w5 ⟨⟨A5, c5, rfl, hS5, hc5, ht5⟩, o5, hF5, hd5, hn5⟩
                  have hR5 := HR2.out.keep HF2.out hd5
                  have hB5 := HF2.out.step hd5 HB2.out
                  have ht5b := subT_base ht5 HB2.out.size
                  obtain ⟨w6, hw6⟩ : ∃ w6, w6 = w5.alloc (.cells (PkC P A5 X.length c5) 36) := ⟨_, rfl⟩
                  have hba : Below w5.heap.size w5 w6 := by rw [hw6]; exact (Below.refl w5.heap.size w5).alloc (Nat.le_refl _) _
                  have HP6 : Hid (w6.heap[w5.heap.size]? = some (.cells (PkC P A5 X.length c5) 36 (0, 0))) := by show _ = _; rw [hw6]; exact heap_alloc_new w5 _
                  have HF6 := Lib.hid (hF5.below hba)
                  have HR6 := Lib.hid (hR5.below hba)
                  have HB6 := Lib.hid (below_more hB5 hba)
                  have HS6 := Lib.hid (hS5.below hba)
                  have HT6 := Lib.hid (subT_keep ht5b (.of_below hba))
                  clear hF5 hR5 hB5 hS5 ht5 ht5b hba hd5 hn5 HF2 HR2 HB2 HL2
                  go_wp2_with fail
                  rw [← hw6]
                  clear hw6
                  generalize w5.heap.size = h12 at HP6 ⊢
                  refine (rfNext_any HR6.out (by omega) P X r er b3 f3 HNX.out).mono ?_
                  rintro e w7 ⟨A7, c7, rfl, hS7, hc7, hR7, hd7⟩
                  have hks := HR6.out.keepS hd7
                  have hS7p := subs_keep HS6.out HT6.out hks
                  have hT7 := subT_keep HT6.out hks
                  have hP7 := HR6.out.other hd7 HP6.out (by decide)
                  have hF7 := HF6.out.keepR HR6.out hd7
                  have hB7 : Below w1.heap.size w1 w7 := HB6.out.trans (hd7.below hg2 (fun b h => by cases h) HB6.out.size)
                  obtain ⟨w8, hw8⟩ : ∃ w8, w8 = w7.alloc (.cells (PkC P A7 X.length c7) 36) := ⟨_, rfl⟩
                  have hbb : Below w7.heap.size w7 w8 := by rw [hw8]; exact (Below.refl w7.heap.size w7).alloc (Nat.le_refl _) _
                  have hP8q : w8.heap[w7.heap.size]? = some (.cells (PkC P A7 X.length c7) 36 (0, 0)) := by rw [hw8]; exact heap_alloc_new w7 _
                  have hP8 := (hbb.block _ (Array.getElem?_eq_some_iff.1 hP7).1).trans hP7
                  have HF8 := Lib.hid (hF7.below hbb)
                  have HR8 := Lib.hid (hR7.below hbb)
                  have HB8 := Lib.hid (below_more hB7 hbb)
                  have HS8p := Lib.hid (hS7p.below hbb)
                  have HS8 := Lib.hid (hS7.below hbb)
                  have HT8 := Lib.hid (subT_keep hT7 (.of_below hbb))
                  have HP8 := Lib.hid hP8
                  obtain ⟨d1, d2, d3, d4, d5⟩ := blk_row hP7
                  have hrr : (r != r) = false := by simp
                  have hrr2 : (r == r) = true := by simp
                  have hee : (er != er) = false := by simp
                  have hee2 : (er == er) = true := by simp
                  clear hF7 hR7 hB7 hS7p hS7 hT7 hP7 hbb hd7 hks HF6 HR6 HB6 HS6 HT6 HP6 hP8 hP8q hc7
                  go_wp2_with fail
                  rw [← hw8]
                  clear hw8 d1 d2 d3 d4 d5 hrr hrr2 hee hee2
                  generalize w7.heap.size = h15
                  refine (refSame_one P A5 A7 X.length X.length c5 c7 X _ HS8p.out HS8.out (by omega)).mono ?_
                  rintro e w9 ⟨rfl, hb9⟩
                  have HF9 := Lib.hid (HF8.out.below hb9)
                  have HR9 := Lib.hid (HR8.out.below hb9)
                  have HB9 := Lib.hid (below_more HB8.out hb9)
                  have hP9 := (hb9.block _ (Array.getElem?_eq_some_iff.1 HP8.out).1).trans HP8.out
                  have HW9 := Lib.hid (subW_of (HS8p.out.below hb9) (subT_keep HT8.out (.of_below hb9)))
                  have HP9 := Lib.hid hP9
                  clear hP9 hb9 HF8 HR8 HB8 HS8p HS8 HT8 HP8
                  obtain ⟨nX, hnX⟩ : ∃ nX, nX = X.length := ⟨_, rfl⟩
                  rw [← hnX] at HW9 HP9 hX
                  try rw [← hnX]
                  clear hnX
                  go_wp2_with fail
                  go_loopw [18] (fun jj wr3 => ∃ j3 : Nat, jj = .int .i64 j3 ∧ j3 ≤ nX ∧ Hid (Fr w1.heap.size wr3 g1 o5 most b3 f3) ∧ Hid (RF wr3 g2 most b3 f3) ∧ Hid (Below w1.heap.size w1 wr3) ∧ Hid (SubW w1.heap.size wr3 A5 nX) ∧ Hid (wr3.heap[h12]? = some (.cells (PkC P A5 nX c5) 36 (0, 0)))) (fun jj _ => nX - (intOf jj).toNat)
                  case atStart => exact ⟨0, rfl, by omega, HF9, HR9, HB9, HW9, HP9⟩
                  case round =>
                    clear HF9 HR9 HB9 HW9 HP9
                    obtain ⟨j3, rfl, hj3, HF9, HR9, HB9, HW9, HP9⟩ := hrel
                    obtain ⟨d1, d2, d3, d4, d5⟩ := blk_row HP9.out
                    by_cases hlt3 : j3 < nX
                    · have hlt3I : (j3 : Int) < (nX : Int) := by omega
                      obtain ⟨bs, off, cur, rfl, hbs, hcur, hsz⟩ := HW9.out (by omega)
                      obtain ⟨s1, s2, s3, s4, s5⟩ := blk_row hcur
                      have hidx : off + j3 * 2 < cur.size := by omega
                      have hcl : wr.cell? ⟨bs, off + j3 * 2, none⟩ = some cur[off + j3 * 2] := by rw [s3]; exact Array.getElem?_eq_getElem hidx
                      have hfz := s5 (off + j3 * 2)
                      have HF10 := Lib.hid (HF9.out.setP (cs' := cur.setIfInBounds (off + j3 * 2) (.string ⟨[115, 112, 111, 105, 108, 116].toArray⟩)) hcur (by decide) (by decide))
                      have HR10 := Lib.hid (HR9.out.setP (cs' := cur.setIfInBounds (off + j3 * 2) (.string ⟨[115, 112, 111, 105, 108, 116].toArray⟩)) hcur (by decide))
                      have HB10 := Lib.hid (below_setRow HB9.out hbs (cur.setIfInBounds (off + j3 * 2) (.string ⟨[115, 112, 111, 105, 108, 116].toArray⟩)))
                      have hneP : h12 ≠ bs := by
                        rintro rfl
                        have h9 := HP9.out
                        rw [hcur] at h9
                        injection h9 with h9
                        injection h9 with _ h9 _
                        revert h9
                        decide
                      have HP10 := Lib.hid ((setRow_other wr bs h12 (cur.setIfInBounds (off + j3 * 2) (.string ⟨[115, 112, 111, 105, 108, 116].toArray⟩)) hneP).trans HP9.out)
                      have HW10 : Hid (SubW w1.heap.size (wr.setRow bs (cur.setIfInBounds (off + j3 * 2) (.string ⟨[115, 112, 111, 105, 108, 116].toArray⟩))) (some ⟨bs, off, none⟩) nX) := fun _ => ⟨bs, off, _, rfl, hbs, setRow_heap wr bs _ _ _ _ hcur, by simpa using hsz⟩
                      clear hcur HF9 HR9 HB9 HW9 HP9 hsz s3 s5
                      go_wp2_with fail
                      go_roundw
                      case rel => exact ⟨j3 + 1, by go_num, by omega, HF10, HR10, HB10, HW10, HP10⟩
                      case measure => simp [intOf]; omega
                    · have hge3 : ¬ (j3 : Int) < (nX : Int) := by omega
                      go_wp2_with fail
                      clear d1 d2 d3 d4 d5
                      go_roundw
                      case rel => exact ⟨j + 1, b3, f3, o5, by go_num, by omega, HF9, HR9, HB9, HL3⟩
                      case measure => simp [intOf]; omega
                · have hjI : ¬ (j : Int) < 1 := by omega
                  obtain ⟨d1, d2, d3, d4, d5⟩ := blk_row HR2.out
                  have hll : ((b2.length : Int) != (b2.length : Int)) = false := by simp
                  have hll2 : ((b2.length : Int) == (b2.length : Int)) = true := by simp
                  go_wp2_with fail
                  clear d1 d2 d3 d4 d5
                  refine wp_region_held_drew (S := (fun w' => Below wm.heap.size wm w')) (by kernel_rfl) ((Below.refl _ _).drew) (fun hHeld => ?_)
                  refine tkY 0 oFpPlays1 ?vv8_0 rfl (by kernel_rfl) (by kernel_rfl) (by kernel_rfl) (fun _ _ _ h => h) (by rfl) ?hy8_0 (by assumption) ?rest8_0
                  case hy8_0 => (intro w hSw; unfold oFpPlays1; (try dsimp only at hSw); (try go_split_ands); go_simp; all_goals with_reducible rfl)
                  try simp only [oFpPlays1, Act.put, sA, sB, sC]
                  refine tkY 2 oFpPlays2 ?vv8_2 rfl (by kernel_rfl) (by kernel_rfl) (by kernel_rfl) (fun _ _ _ h => h) (by rfl) ?hy8_2 (by assumption) ?rest8_2
                  case hy8_2 => (intro w hSw; unfold oFpPlays2; (try dsimp only at hSw); (try go_split_ands); go_simp; all_goals with_reducible rfl)
                  try simp only [oFpPlays2, Act.put, sA, sB, sC]
                  refine tkY 3 oFpPlays3 ?vv8_3 rfl (by kernel_rfl) (by kernel_rfl) (by kernel_rfl) (fun _ _ _ h => h) (by rfl) ?hy8_3 (by assumption) ?rest8_3
                  case hy8_3 => (intro w hSw; unfold oFpPlays3; (try dsimp only at hSw); (try go_split_ands); go_simp; all_goals with_reducible rfl)
                  try simp only [oFpPlays3, Act.put, sA, sB, sC]
                  refine tkY 4 oFpPlays4 ?vv8_4 rfl (by kernel_rfl) (by kernel_rfl) (by kernel_rfl) (fun _ _ _ h => h) (by rfl) ?hy8_4 (by assumption) ?rest8_4
                  case hy8_4 => (intro w hSw; unfold oFpPlays4; (try dsimp only at hSw); (try go_split_ands); go_simp; all_goals with_reducible rfl)
                  try simp only [oFpPlays4, Act.put, sA, sB, sC]
                  refine tkY 5 oFpPlays5 ?vv8_5 rfl (by kernel_rfl) (by kernel_rfl) (by kernel_rfl) (fun _ _ _ h => h) (by rfl) ?hy8_5 (by assumption) ?rest8_5
                  case hy8_5 => (intro w hSw; unfold oFpPlays5; (try dsimp only at hSw); have ⟨d1, d2, d3, d4, d5⟩ := blk_row (HR2.out.below hSw); go_simp; all_goals with_reducible rfl)
                  try simp only [oFpPlays5, Act.put, sA, sB, sC]
                  refine tkY 6 oFpPlays6 ?vv8_6 rfl (by kernel_rfl) (by kernel_rfl) (by kernel_rfl) (fun _ _ _ h => h) (by rfl) ?hy8_6 (by assumption) ?rest8_6
                  case hy8_6 => (intro w hSw; unfold oFpPlays6; (try dsimp only at hSw); (try go_split_ands); go_simp; all_goals with_reducible rfl)
                  try simp only [oFpPlays6, Act.put, sA, sB, sC]
                  refine wpAnyH_ready (rs := [1]) (by kernel_rfl) (by simp) ?_
                  refine AllReadyH.cons (o := oFpPlays7) rfl (fun K hK => ?_) AllReadyH.nil
                  unfold oFpPlays7
                  go_simp
                  (go_at_call 13; refine (frLeft' (HF2.out.below hHeld) (by omega)).mono ?_; rintro e w6 ⟨rfl, hb6⟩)
                  refine hK.out _ _ ?_ (fun hHeld => ?_)
                  · (exact below_more hHeld hb6)
                  clear hK K
                  try simp only [oFpPlays7, Act.put, sA, sB, sC]
                  refine tkY 7 oFpPlays8 ?vv8_7 rfl (by kernel_rfl) (by kernel_rfl) (by kernel_rfl) (fun _ _ _ h => h) (by rfl) ?hy8_7 (by assumption) ?rest8_7
                  case hy8_7 => (intro w hSw; unfold oFpPlays8; (try dsimp only at hSw); (try go_split_ands); go_simp; all_goals with_reducible rfl)
                  try simp only [oFpPlays8, Act.put, sA, sB, sC]
                  refine wpAnyH_done (by kernel_rfl) ?_ _
                  have HF4 := Lib.hid (HF2.out.below hHeld)
                  have HR4 := Lib.hid (HR2.out.below hHeld)
                  have HB4 := Lib.hid (below_more HB2.out hHeld)
                  clear hHeld HF2 HR2 HB2
                  go_wp2_with fail
                  go_roundw
                  case rel => exact ⟨k + 1, b2, f2, o2, by go_num, by omega, HF4, HR4, HB4, HL2⟩
                  case measure => simp [intOf]; omega
          · go_wp2_with fail
            refine (frPushE HF.out hf0 x).mono ?_
            rintro e w4 ⟨rfl, rfl⟩
            go_wp2_with fail
            refine (rfPushE HR.out hf0 x).mono ?_
            rintro e w5 ⟨rfl, rfl⟩
            have HF1 := HF
            have HB1 := HB
            have HR1 := HR
            have HL1 := HL1y
            clear HL1x HL1y HL hcell HF HR HB hcell0 hf0 hbx
            obtain ⟨b1, hb1⟩ : ∃ b1, b1 = b := ⟨_, rfl⟩
            obtain ⟨f1, hf1⟩ : ∃ f1, f1 = f := ⟨_, rfl⟩
            obtain ⟨o1, ho1⟩ : ∃ o1, o1 = o := ⟨_, rfl⟩
            rw [← hb1, ← hf1, ← ho1] at HF1
            rw [← hb1, ← hf1] at HR1
            rw [← hb1] at HL1
            clear hb1 hf1 ho1
            by_cases hask : k < n2
            · have hask2 : (k : Int) < (n2 : Int) := by omega
              obtain ⟨b9, off9, e9, _, hc9⟩ := (HBS.out.below HB1.out) (by omega)
              obtain ⟨v, hv0, hv1, hcell9⟩ := hc9 k hask
              subst e9
              obtain ⟨q, hq⟩ : ∃ q : Nat, v % 8 = (q : Int) := ⟨(v % 8).toNat, by omega⟩
              have hq7 : q ≤ 7 := by omega
              have hm8 : v.tmod 8 = (q : Int) := by rw [Int.tmod_eq_emod_of_nonneg hv0, hq]
              have hw8 : IntKind.u8.wrap (q : Int) = (q : Int) := IntWalk.u8_in _ (by omega)
              have hw64 : IntKind.i64.wrap (q : Int) = (q : Int) := IntWalk.i64_in _ (by omega)
              clear hc9 hq
              go_wp2_with fail
              go_loopw [11] (fun kk wr2 => ∃ (j : Nat) (b2 : List UInt8) (f2 : Int) (o2 : Option Nat), kk = .int .i64 j ∧ j ≤ q ∧ Hid (Fr w1.heap.size wr2 g1 o2 most b2 f2) ∧ Hid (RF wr2 g2 most b2 f2) ∧ Hid (Below w1.heap.size w1 wr2) ∧ Hid (b2.length ≤ (ss.take (k + 1)).flatten.length)) (fun kk _ => q - (intOf kk).toNat)
              case atStart => exact ⟨0, b1, f1, o1, rfl, by omega, HF1, HR1, HB1, HL1⟩
              case round =>
                clear HF1 HR1 HB1 HL1
                obtain ⟨j, b2, f2, o2, rfl, hj, HF2, HR2, HB2, HL2⟩ := hrel
                obtain ⟨wm, hwm⟩ : ∃ wm : World, wm = wr := ⟨_, rfl⟩
                rw [← hwm] at HF2 HR2 HB2 ⊢
                clear hwm
                have hl2 : b2.length ≤ 20000 := by have := HL2.out; have := HFL.out; omega
                by_cases hjq : j < q
                · have hjI : (j : Int) < (q : Int) := by omega
                  obtain ⟨P, X, r, er, b3, f3, hnx⟩ : ∃ P X r er b3 f3, nxR most b2 f2 = ((P, X), r, er, b3, f3) := ⟨_, _, _, _, _, _, rfl⟩
                  obtain ⟨hX, hb3⟩ := nx_bd most b2 f2 hm1 P X r er b3 f3 hnx
                  have HL3 : Hid (b3.length ≤ (ss.take (k + 1)).flatten.length) := Nat.le_trans hb3 HL2.out
                  have HNX := Lib.hid hnx
                  clear hnx
                  go_wp2_with fail
                  refine (frNext_any HF2.out (glo_c HG.out HB2.out) (by omega) P X r er b3 f3 HNX.out).mono ?_
                  rintro e w5 ⟨⟨A5, c5, rfl, hS5, hc5, ht5⟩, o5, hF5, hd5, hn5⟩
                  have hR5 := HR2.out.keep HF2.out hd5
                  have hB5 := HF2.out.step hd5 HB2.out
                  have ht5b := subT_base ht5 HB2.out.size
                  obtain ⟨w6, hw6⟩ : ∃ w6, w6 = w5.alloc (.cells (PkC P A5 X.length c5) 36) := ⟨_, rfl⟩
                  have hba : Below w5.heap.size w5 w6 := by rw [hw6]; exact (Below.refl w5.heap.size w5).alloc (Nat.le_refl _) _
                  have HP6 : Hid (w6.heap[w5.heap.size]? = some (.cells (PkC P A5 X.length c5) 36 (0, 0))) := by show _ = _; rw [hw6]; exact heap_alloc_new w5 _
                  have HF6 := Lib.hid (hF5.below hba)
                  have HR6 := Lib.hid (hR5.below hba)
                  have HB6 := Lib.hid (below_more hB5 hba)
                  have HS6 := Lib.hid (hS5.below hba)
                  have HT6 := Lib.hid (subT_keep ht5b (.of_below hba))
                  clear hF5 hR5 hB5 hS5 ht5 ht5b hba hd5 hn5 HF2 HR2 HB2 HL2
                  go_wp2_with fail
                  rw [← hw6]
                  clear hw6
                  generalize w5.heap.size = h12 at HP6 ⊢
                  refine (rfNext_any HR6.out (by omega) P X r er b3 f3 HNX.out).mono ?_
                  rintro e w7 ⟨A7, c7, rfl, hS7, hc7, hR7, hd7⟩
                  have hks := HR6.out.keepS hd7
                  have hS7p := subs_keep HS6.out HT6.out hks
                  have hT7 := subT_keep HT6.out hks
                  have hP7 := HR6.out.other hd7 HP6.out (by decide)
                  have hF7 := HF6.out.keepR HR6.out hd7
                  have hB7 : Below w1.heap.size w1 w7 := HB6.out.trans (hd7.below hg2 (fun b h => by cases h) HB6.out.size)
                  obtain ⟨w8, hw8⟩ : ∃ w8, w8 = w7.alloc (.cells (PkC P A7 X.length c7) 36) := ⟨_, rfl⟩
                  have hbb : Below w7.heap.size w7 w8 := by rw [hw8]; exact (Below.refl w7.heap.size w7).alloc (Nat.le_refl _) _
                  have hP8q : w8.heap[w7.heap.size]? = some (.cells (PkC P A7 X.length c7) 36 (0, 0)) := by rw [hw8]; exact heap_alloc_new w7 _
                  have hP8 := (hbb.block _ (Array.getElem?_eq_some_iff.1 hP7).1).trans hP7
                  have HF8 := Lib.hid (hF7.below hbb)
                  have HR8 := Lib.hid (hR7.below hbb)
                  have HB8 := Lib.hid (below_more hB7 hbb)
                  have HS8p := Lib.hid (hS7p.below hbb)
                  have HS8 := Lib.hid (hS7.below hbb)
                  have HT8 := Lib.hid (subT_keep hT7 (.of_below hbb))
                  have HP8 := Lib.hid hP8
                  obtain ⟨d1, d2, d3, d4, d5⟩ := blk_row hP7
                  have hrr : (r != r) = false := by simp
                  have hrr2 : (r == r) = true := by simp
                  have hee : (er != er) = false := by simp
                  have hee2 : (er == er) = true := by simp
                  clear hF7 hR7 hB7 hS7p hS7 hT7 hP7 hbb hd7 hks HF6 HR6 HB6 HS6 HT6 HP6 hP8 hP8q hc7
                  go_wp2_with fail
                  rw [← hw8]
                  clear hw8 d1 d2 d3 d4 d5 hrr hrr2 hee hee2
                  generalize w7.heap.size = h15
                  refine (refSame_one P A5 A7 X.length X.length c5 c7 X _ HS8p.out HS8.out (by omega)).mono ?_
                  rintro e w9 ⟨rfl, hb9⟩
                  have HF9 := Lib.hid (HF8.out.below hb9)
                  have HR9 := Lib.hid (HR8.out.below hb9)
                  have HB9 := Lib.hid (below_more HB8.out hb9)
                  have hP9 := (hb9.block _ (Array.getElem?_eq_some_iff.1 HP8.out).1).trans HP8.out
                  have HW9 := Lib.hid (subW_of (HS8p.out.below hb9) (subT_keep HT8.out (.of_below hb9)))
                  have HP9 := Lib.hid hP9
                  clear hP9 hb9 HF8 HR8 HB8 HS8p HS8 HT8 HP8
                  obtain ⟨nX, hnX⟩ : ∃ nX, nX = X.length := ⟨_, rfl⟩
                  rw [← hnX] at HW9 HP9 hX
                  try rw [← hnX]
                  clear hnX
                  go_wp2_with fail
                  go_loopw [18] (fun jj wr3 => ∃ j3 : Nat, jj = .int .i64 j3 ∧ j3 ≤ nX ∧ Hid (Fr w1.heap.size wr3 g1 o5 most b3 f3) ∧ Hid (RF wr3 g2 most b3 f3) ∧ Hid (Below w1.heap.size w1 wr3) ∧ Hid (SubW w1.heap.size wr3 A5 nX) ∧ Hid (wr3.heap[h12]? = some (.cells (PkC P A5 nX c5) 36 (0, 0)))) (fun jj _ => nX - (intOf jj).toNat)
                  case atStart => exact ⟨0, rfl, by omega, HF9, HR9, HB9, HW9, HP9⟩
                  case round =>
                    clear HF9 HR9 HB9 HW9 HP9
                    obtain ⟨j3, rfl, hj3, HF9, HR9, HB9, HW9, HP9⟩ := hrel
                    obtain ⟨d1, d2, d3, d4, d5⟩ := blk_row HP9.out
                    by_cases hlt3 : j3 < nX
                    · have hlt3I : (j3 : Int) < (nX : Int) := by omega
                      obtain ⟨bs, off, cur, rfl, hbs, hcur, hsz⟩ := HW9.out (by omega)
                      obtain ⟨s1, s2, s3, s4, s5⟩ := blk_row hcur
                      have hidx : off + j3 * 2 < cur.size := by omega
                      have hcl : wr.cell? ⟨bs, off + j3 * 2, none⟩ = some cur[off + j3 * 2] := by rw [s3]; exact Array.getElem?_eq_getElem hidx
                      have hfz := s5 (off + j3 * 2)
                      have HF10 := Lib.hid (HF9.out.setP (cs' := cur.setIfInBounds (off + j3 * 2) (.string ⟨[115, 112, 111, 105, 108, 116].toArray⟩)) hcur (by decide) (by decide))
                      have HR10 := Lib.hid (HR9.out.setP (cs' := cur.setIfInBounds (off + j3 * 2) (.string ⟨[115, 112, 111, 105, 108, 116].toArray⟩)) hcur (by decide))
                      have HB10 := Lib.hid (below_setRow HB9.out hbs (cur.setIfInBounds (off + j3 * 2) (.string ⟨[115, 112, 111, 105, 108, 116].toArray⟩)))
                      have hneP : h12 ≠ bs := by
                        rintro rfl
                        have h9 := HP9.out
                        rw [hcur] at h9
                        injection h9 with h9
                        injection h9 with _ h9 _
                        revert h9
                        decide
                      have HP10 := Lib.hid ((setRow_other wr bs h12 (cur.setIfInBounds (off + j3 * 2) (.string ⟨[115, 112, 111, 105, 108, 116].toArray⟩)) hneP).trans HP9.out)
                      have HW10 : Hid (SubW w1.heap.size (wr.setRow bs (cur.setIfInBounds (off + j3 * 2) (.string ⟨[115, 112, 111, 105, 108, 116].toArray⟩))) (some ⟨bs, off, none⟩) nX) := fun _ => ⟨bs, off, _, rfl, hbs, setRow_heap wr bs _ _ _ _ hcur, by simpa using hsz⟩
                      clear hcur HF9 HR9 HB9 HW9 HP9 hsz s3 s5
                      go_wp2_with fail
                      go_roundw
                      case rel => exact ⟨j3 + 1, by go_num, by omega, HF10, HR10, HB10, HW10, HP10⟩
                      case measure => simp [intOf]; omega
                    · have hge3 : ¬ (j3 : Int) < (nX : Int) := by omega
                      go_wp2_with fail
                      clear d1 d2 d3 d4 d5
                      go_roundw
                      case rel => exact ⟨j + 1, b3, f3, o5, by go_num, by omega, HF9, HR9, HB9, HL3⟩
                      case measure => simp [intOf]; omega
                · have hjI : ¬ (j : Int) < (q : Int) := by omega
                  obtain ⟨d1, d2, d3, d4, d5⟩ := blk_row HR2.out
                  have hll : ((b2.length : Int) != (b2.length : Int)) = false := by simp
                  have hll2 : ((b2.length : Int) == (b2.length : Int)) = true := by simp
                  go_wp2_with fail
                  clear d1 d2 d3 d4 d5
                  refine wp_region_held_drew (S := (fun w' => Below wm.heap.size wm w')) (by kernel_rfl) ((Below.refl _ _).drew) (fun hHeld => ?_)
                  refine tkY 0 oFpPlays1 ?vv9_0 rfl (by kernel_rfl) (by kernel_rfl) (by kernel_rfl) (fun _ _ _ h => h) (by rfl) ?hy9_0 (by assumption) ?rest9_0
                  case hy9_0 => (intro w hSw; unfold oFpPlays1; (try dsimp only at hSw); (try go_split_ands); go_simp; all_goals with_reducible rfl)
                  try simp only [oFpPlays1, Act.put, sA, sB, sC]
                  refine tkY 2 oFpPlays2 ?vv9_2 rfl (by kernel_rfl) (by kernel_rfl) (by kernel_rfl) (fun _ _ _ h => h) (by rfl) ?hy9_2 (by assumption) ?rest9_2
                  case hy9_2 => (intro w hSw; unfold oFpPlays2; (try dsimp only at hSw); (try go_split_ands); go_simp; all_goals with_reducible rfl)
                  try simp only [oFpPlays2, Act.put, sA, sB, sC]
                  refine tkY 3 oFpPlays3 ?vv9_3 rfl (by kernel_rfl) (by kernel_rfl) (by kernel_rfl) (fun _ _ _ h => h) (by rfl) ?hy9_3 (by assumption) ?rest9_3
                  case hy9_3 => (intro w hSw; unfold oFpPlays3; (try dsimp only at hSw); (try go_split_ands); go_simp; all_goals with_reducible rfl)
                  try simp only [oFpPlays3, Act.put, sA, sB, sC]
                  refine tkY 4 oFpPlays4 ?vv9_4 rfl (by kernel_rfl) (by kernel_rfl) (by kernel_rfl) (fun _ _ _ h => h) (by rfl) ?hy9_4 (by assumption) ?rest9_4
                  case hy9_4 => (intro w hSw; unfold oFpPlays4; (try dsimp only at hSw); (try go_split_ands); go_simp; all_goals with_reducible rfl)
                  try simp only [oFpPlays4, Act.put, sA, sB, sC]
                  refine tkY 5 oFpPlays5 ?vv9_5 rfl (by kernel_rfl) (by kernel_rfl) (by kernel_rfl) (fun _ _ _ h => h) (by rfl) ?hy9_5 (by assumption) ?rest9_5
                  case hy9_5 => (intro w hSw; unfold oFpPlays5; (try dsimp only at hSw); have ⟨d1, d2, d3, d4, d5⟩ := blk_row (HR2.out.below hSw); go_simp; all_goals with_reducible rfl)
                  try simp only [oFpPlays5, Act.put, sA, sB, sC]
                  refine tkY 6 oFpPlays6 ?vv9_6 rfl (by kernel_rfl) (by kernel_rfl) (by kernel_rfl) (fun _ _ _ h => h) (by rfl) ?hy9_6 (by assumption) ?rest9_6
                  case hy9_6 => (intro w hSw; unfold oFpPlays6; (try dsimp only at hSw); (try go_split_ands); go_simp; all_goals with_reducible rfl)
                  try simp only [oFpPlays6, Act.put, sA, sB, sC]
                  refine wpAnyH_ready (rs := [1]) (by kernel_rfl) (by simp) ?_
                  refine AllReadyH.cons (o := oFpPlays7) rfl (fun K hK => ?_) AllReadyH.nil
                  unfold oFpPlays7
                  go_simp
                  (go_at_call 13; refine (frLeft' (HF2.out.below hHeld) (by omega)).mono ?_; rintro e w6 ⟨rfl, hb6⟩)
                  refine hK.out _ _ ?_ (fun hHeld => ?_)
                  · (exact below_more hHeld hb6)
                  clear hK K
                  try simp only [oFpPlays7, Act.put, sA, sB, sC]
                  refine tkY 7 oFpPlays8 ?vv9_7 rfl (by kernel_rfl) (by kernel_rfl) (by kernel_rfl) (fun _ _ _ h => h) (by rfl) ?hy9_7 (by assumption) ?rest9_7
                  case hy9_7 => (intro w hSw; unfold oFpPlays8; (try dsimp only at hSw); (try go_split_ands); go_simp; all_goals with_reducible rfl)
                  try simp only [oFpPlays8, Act.put, sA, sB, sC]
                  refine wpAnyH_done (by kernel_rfl) ?_ _
                  have HF4 := Lib.hid (HF2.out.below hHeld)
                  have HR4 := Lib.hid (HR2.out.below hHeld)
                  have HB4 := Lib.hid (below_more HB2.out hHeld)
                  clear hHeld HF2 HR2 HB2
                  go_wp2_with fail
                  go_roundw
                  case rel => exact ⟨k + 1, b2, f2, o2, by go_num, by omega, HF4, HR4, HB4, HL2⟩
                  case measure => simp [intOf]; omega
            · have hask2 : ¬ (k : Int) < (n2 : Int) := by omega
              go_wp2_with fail
              go_loopw [11] (fun kk wr2 => ∃ (j : Nat) (b2 : List UInt8) (f2 : Int) (o2 : Option Nat), kk = .int .i64 j ∧ j ≤ 1 ∧ Hid (Fr w1.heap.size wr2 g1 o2 most b2 f2) ∧ Hid (RF wr2 g2 most b2 f2) ∧ Hid (Below w1.heap.size w1 wr2) ∧ Hid (b2.length ≤ (ss.take (k + 1)).flatten.length)) (fun kk _ => 1 - (intOf kk).toNat)
              case atStart => exact ⟨0, b1, f1, o1, rfl, by omega, HF1, HR1, HB1, HL1⟩
              case round =>
                clear HF1 HR1 HB1 HL1
                obtain ⟨j, b2, f2, o2, rfl, hj, HF2, HR2, HB2, HL2⟩ := hrel
                obtain ⟨wm, hwm⟩ : ∃ wm : World, wm = wr := ⟨_, rfl⟩
                rw [← hwm] at HF2 HR2 HB2 ⊢
                clear hwm
                have hl2 : b2.length ≤ 20000 := by have := HL2.out; have := HFL.out; omega
                by_cases hjq : j < 1
                · have hjI : (j : Int) < 1 := by omega
                  obtain ⟨P, X, r, er, b3, f3, hnx⟩ : ∃ P X r er b3 f3, nxR most b2 f2 = ((P, X), r, er, b3, f3) := ⟨_, _, _, _, _, _, rfl⟩
                  obtain ⟨hX, hb3⟩ := nx_bd most b2 f2 hm1 P X r er b3 f3 hnx
                  have HL3 : Hid (b3.length ≤ (ss.take (k + 1)).flatten.length) := Nat.le_trans hb3 HL2.out
                  have HNX := Lib.hid hnx
                  clear hnx
                  go_wp2_with fail
                  refine (frNext_any HF2.out (glo_c HG.out HB2.out) (by omega) P X r er b3 f3 HNX.out).mono ?_
                  rintro e w5 ⟨⟨A5, c5, rfl, hS5, hc5, ht5⟩, o5, hF5, hd5, hn5⟩
                  have hR5 := HR2.out.keep HF2.out hd5
                  have hB5 := HF2.out.step hd5 HB2.out
                  have ht5b := subT_base ht5 HB2.out.size
                  obtain ⟨w6, hw6⟩ : ∃ w6, w6 = w5.alloc (.cells (PkC P A5 X.length c5) 36) := ⟨_, rfl⟩
                  have hba : Below w5.heap.size w5 w6 := by rw [hw6]; exact (Below.refl w5.heap.size w5).alloc (Nat.le_refl _) _
                  have HP6 : Hid (w6.heap[w5.heap.size]? = some (.cells (PkC P A5 X.length c5) 36 (0, 0))) := by show _ = _; rw [hw6]; exact heap_alloc_new w5 _
                  have HF6 := Lib.hid (hF5.below hba)
                  have HR6 := Lib.hid (hR5.below hba)
                  have HB6 := Lib.hid (below_more hB5 hba)
                  have HS6 := Lib.hid (hS5.below hba)
                  have HT6 := Lib.hid (subT_keep ht5b (.of_below hba))
                  clear hF5 hR5 hB5 hS5 ht5 ht5b hba hd5 hn5 HF2 HR2 HB2 HL2
                  go_wp2_with fail
                  rw [← hw6]
                  clear hw6
                  generalize w5.heap.size = h12 at HP6 ⊢
                  refine (rfNext_any HR6.out (by omega) P X r er b3 f3 HNX.out).mono ?_
                  rintro e w7 ⟨A7, c7, rfl, hS7, hc7, hR7, hd7⟩
                  have hks := HR6.out.keepS hd7
                  have hS7p := subs_keep HS6.out HT6.out hks
                  have hT7 := subT_keep HT6.out hks
                  have hP7 := HR6.out.other hd7 HP6.out (by decide)
                  have hF7 := HF6.out.keepR HR6.out hd7
                  have hB7 : Below w1.heap.size w1 w7 := HB6.out.trans (hd7.below hg2 (fun b h => by cases h) HB6.out.size)
                  obtain ⟨w8, hw8⟩ : ∃ w8, w8 = w7.alloc (.cells (PkC P A7 X.length c7) 36) := ⟨_, rfl⟩
                  have hbb : Below w7.heap.size w7 w8 := by rw [hw8]; exact (Below.refl w7.heap.size w7).alloc (Nat.le_refl _) _
                  have hP8q : w8.heap[w7.heap.size]? = some (.cells (PkC P A7 X.length c7) 36 (0, 0)) := by rw [hw8]; exact heap_alloc_new w7 _
                  have hP8 := (hbb.block _ (Array.getElem?_eq_some_iff.1 hP7).1).trans hP7
                  have HF8 := Lib.hid (hF7.below hbb)
                  have HR8 := Lib.hid (hR7.below hbb)
                  have HB8 := Lib.hid (below_more hB7 hbb)
                  have HS8p := Lib.hid (hS7p.below hbb)
                  have HS8 := Lib.hid (hS7.below hbb)
                  have HT8 := Lib.hid (subT_keep hT7 (.of_below hbb))
                  have HP8 := Lib.hid hP8
                  obtain ⟨d1, d2, d3, d4, d5⟩ := blk_row hP7
                  have hrr : (r != r) = false := by simp
                  have hrr2 : (r == r) = true := by simp
                  have hee : (er != er) = false := by simp
                  have hee2 : (er == er) = true := by simp
                  clear hF7 hR7 hB7 hS7p hS7 hT7 hP7 hbb hd7 hks HF6 HR6 HB6 HS6 HT6 HP6 hP8 hP8q hc7
                  go_wp2_with fail
                  rw [← hw8]
                  clear hw8 d1 d2 d3 d4 d5 hrr hrr2 hee hee2
                  generalize w7.heap.size = h15
                  refine (refSame_one P A5 A7 X.length X.length c5 c7 X _ HS8p.out HS8.out (by omega)).mono ?_
                  rintro e w9 ⟨rfl, hb9⟩
                  have HF9 := Lib.hid (HF8.out.below hb9)
                  have HR9 := Lib.hid (HR8.out.below hb9)
                  have HB9 := Lib.hid (below_more HB8.out hb9)
                  have hP9 := (hb9.block _ (Array.getElem?_eq_some_iff.1 HP8.out).1).trans HP8.out
                  have HW9 := Lib.hid (subW_of (HS8p.out.below hb9) (subT_keep HT8.out (.of_below hb9)))
                  have HP9 := Lib.hid hP9
                  clear hP9 hb9 HF8 HR8 HB8 HS8p HS8 HT8 HP8
                  obtain ⟨nX, hnX⟩ : ∃ nX, nX = X.length := ⟨_, rfl⟩
                  rw [← hnX] at HW9 HP9 hX
                  try rw [← hnX]
                  clear hnX
                  go_wp2_with fail
                  go_loopw [18] (fun jj wr3 => ∃ j3 : Nat, jj = .int .i64 j3 ∧ j3 ≤ nX ∧ Hid (Fr w1.heap.size wr3 g1 o5 most b3 f3) ∧ Hid (RF wr3 g2 most b3 f3) ∧ Hid (Below w1.heap.size w1 wr3) ∧ Hid (SubW w1.heap.size wr3 A5 nX) ∧ Hid (wr3.heap[h12]? = some (.cells (PkC P A5 nX c5) 36 (0, 0)))) (fun jj _ => nX - (intOf jj).toNat)
                  case atStart => exact ⟨0, rfl, by omega, HF9, HR9, HB9, HW9, HP9⟩
                  case round =>
                    clear HF9 HR9 HB9 HW9 HP9
                    obtain ⟨j3, rfl, hj3, HF9, HR9, HB9, HW9, HP9⟩ := hrel
                    obtain ⟨d1, d2, d3, d4, d5⟩ := blk_row HP9.out
                    by_cases hlt3 : j3 < nX
                    · have hlt3I : (j3 : Int) < (nX : Int) := by omega
                      obtain ⟨bs, off, cur, rfl, hbs, hcur, hsz⟩ := HW9.out (by omega)
                      obtain ⟨s1, s2, s3, s4, s5⟩ := blk_row hcur
                      have hidx : off + j3 * 2 < cur.size := by omega
                      have hcl : wr.cell? ⟨bs, off + j3 * 2, none⟩ = some cur[off + j3 * 2] := by rw [s3]; exact Array.getElem?_eq_getElem hidx
                      have hfz := s5 (off + j3 * 2)
                      have HF10 := Lib.hid (HF9.out.setP (cs' := cur.setIfInBounds (off + j3 * 2) (.string ⟨[115, 112, 111, 105, 108, 116].toArray⟩)) hcur (by decide) (by decide))
                      have HR10 := Lib.hid (HR9.out.setP (cs' := cur.setIfInBounds (off + j3 * 2) (.string ⟨[115, 112, 111, 105, 108, 116].toArray⟩)) hcur (by decide))
                      have HB10 := Lib.hid (below_setRow HB9.out hbs (cur.setIfInBounds (off + j3 * 2) (.string ⟨[115, 112, 111, 105, 108, 116].toArray⟩)))
                      have hneP : h12 ≠ bs := by
                        rintro rfl
                        have h9 := HP9.out
                        rw [hcur] at h9
                        injection h9 with h9
                        injection h9 with _ h9 _
                        revert h9
                        decide
                      have HP10 := Lib.hid ((setRow_other wr bs h12 (cur.setIfInBounds (off + j3 * 2) (.string ⟨[115, 112, 111, 105, 108, 116].toArray⟩)) hneP).trans HP9.out)
                      have HW10 : Hid (SubW w1.heap.size (wr.setRow bs (cur.setIfInBounds (off + j3 * 2) (.string ⟨[115, 112, 111, 105, 108, 116].toArray⟩))) (some ⟨bs, off, none⟩) nX) := fun _ => ⟨bs, off, _, rfl, hbs, setRow_heap wr bs _ _ _ _ hcur, by simpa using hsz⟩
                      clear hcur HF9 HR9 HB9 HW9 HP9 hsz s3 s5
                      go_wp2_with fail
                      go_roundw
                      case rel => exact ⟨j3 + 1, by go_num, by omega, HF10, HR10, HB10, HW10, HP10⟩
                      case measure => simp [intOf]; omega
                    · have hge3 : ¬ (j3 : Int) < (nX : Int) := by omega
                      go_wp2_with fail
                      clear d1 d2 d3 d4 d5
                      go_roundw
                      case rel => exact ⟨j + 1, b3, f3, o5, by go_num, by omega, HF9, HR9, HB9, HL3⟩
                      case measure => simp [intOf]; omega
                · have hjI : ¬ (j : Int) < 1 := by omega
                  obtain ⟨d1, d2, d3, d4, d5⟩ := blk_row HR2.out
                  have hll : ((b2.length : Int) != (b2.length : Int)) = false := by simp
                  have hll2 : ((b2.length : Int) == (b2.length : Int)) = true := by simp
                  go_wp2_with fail
                  clear d1 d2 d3 d4 d5
                  refine wp_region_held_drew (S := (fun w' => Below wm.heap.size wm w')) (by kernel_rfl) ((Below.refl _ _).drew) (fun hHeld => ?_)
                  refine tkY 0 oFpPlays1 ?vv10_0 rfl (by kernel_rfl) (by kernel_rfl) (by kernel_rfl) (fun _ _ _ h => h) (by rfl) ?hy10_0 (by assumption) ?rest10_0
                  case hy10_0 => (intro w hSw; unfold oFpPlays1; (try dsimp only at hSw); (try go_split_ands); go_simp; all_goals with_reducible rfl)
                  try simp only [oFpPlays1, Act.put, sA, sB, sC]
                  refine tkY 2 oFpPlays2 ?vv10_2 rfl (by kernel_rfl) (by kernel_rfl) (by kernel_rfl) (fun _ _ _ h => h) (by rfl) ?hy10_2 (by assumption) ?rest10_2
                  case hy10_2 => (intro w hSw; unfold oFpPlays2; (try dsimp only at hSw); (try go_split_ands); go_simp; all_goals with_reducible rfl)
                  try simp only [oFpPlays2, Act.put, sA, sB, sC]
                  refine tkY 3 oFpPlays3 ?vv10_3 rfl (by kernel_rfl) (by kernel_rfl) (by kernel_rfl) (fun _ _ _ h => h) (by rfl) ?hy10_3 (by assumption) ?rest10_3
                  case hy10_3 => (intro w hSw; unfold oFpPlays3; (try dsimp only at hSw); (try go_split_ands); go_simp; all_goals with_reducible rfl)
                  try simp only [oFpPlays3, Act.put, sA, sB, sC]
                  refine tkY 4 oFpPlays4 ?vv10_4 rfl (by kernel_rfl) (by kernel_rfl) (by kernel_rfl) (fun _ _ _ h => h) (by rfl) ?hy10_4 (by assumption) ?rest10_4
                  case hy10_4 => (intro w hSw; unfold oFpPlays4; (try dsimp only at hSw); (try go_split_ands); go_simp; all_goals with_reducible rfl)
                  try simp only [oFpPlays4, Act.put, sA, sB, sC]
                  refine tkY 5 oFpPlays5 ?vv10_5 rfl (by kernel_rfl) (by kernel_rfl) (by kernel_rfl) (fun _ _ _ h => h) (by rfl) ?hy10_5 (by assumption) ?rest10_5
                  case hy10_5 => (intro w hSw; unfold oFpPlays5; (try dsimp only at hSw); have ⟨d1, d2, d3, d4, d5⟩ := blk_row (HR2.out.below hSw); go_simp; all_goals with_reducible rfl)
                  try simp only [oFpPlays5, Act.put, sA, sB, sC]
                  refine tkY 6 oFpPlays6 ?vv10_6 rfl (by kernel_rfl) (by kernel_rfl) (by kernel_rfl) (fun _ _ _ h => h) (by rfl) ?hy10_6 (by assumption) ?rest10_6
                  case hy10_6 => (intro w hSw; unfold oFpPlays6; (try dsimp only at hSw); (try go_split_ands); go_simp; all_goals with_reducible rfl)
                  try simp only [oFpPlays6, Act.put, sA, sB, sC]
                  refine wpAnyH_ready (rs := [1]) (by kernel_rfl) (by simp) ?_
                  refine AllReadyH.cons (o := oFpPlays7) rfl (fun K hK => ?_) AllReadyH.nil
                  unfold oFpPlays7
                  go_simp
                  (go_at_call 13; refine (frLeft' (HF2.out.below hHeld) (by omega)).mono ?_; rintro e w6 ⟨rfl, hb6⟩)
                  refine hK.out _ _ ?_ (fun hHeld => ?_)
                  · (exact below_more hHeld hb6)
                  clear hK K
                  try simp only [oFpPlays7, Act.put, sA, sB, sC]
                  refine tkY 7 oFpPlays8 ?vv10_7 rfl (by kernel_rfl) (by kernel_rfl) (by kernel_rfl) (fun _ _ _ h => h) (by rfl) ?hy10_7 (by assumption) ?rest10_7
                  case hy10_7 => (intro w hSw; unfold oFpPlays8; (try dsimp only at hSw); (try go_split_ands); go_simp; all_goals with_reducible rfl)
                  try simp only [oFpPlays8, Act.put, sA, sB, sC]
                  refine wpAnyH_done (by kernel_rfl) ?_ _
                  have HF4 := Lib.hid (HF2.out.below hHeld)
                  have HR4 := Lib.hid (HR2.out.below hHeld)
                  have HB4 := Lib.hid (below_more HB2.out hHeld)
                  clear hHeld HF2 HR2 HB2
                  go_wp2_with fail
                  go_roundw
                  case rel => exact ⟨k + 1, b2, f2, o2, by go_num, by omega, HF4, HR4, HB4, HL2⟩
                  case measure => simp [intOf]; omega
        · have hge : ¬ (k : Int) < (n : Int) := by omega
          go_wp2_with fail
          refine (awake6_any _ (HG.out _ HB.out)).mono ?_
          rintro e w4 ⟨rfl, hb4⟩
          go_wp2_with fail
          go_ret
          exact ⟨rfl, below_more HB.out hb4⟩
end lawFramePlays
end Go.Proofs.YtnaedcennichlaaGreatDoor
