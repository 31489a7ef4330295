/-
  topic: the document's own answers: levels, plain texts, levels joined.
-/
import Derived.Test.YthhadjnffeadfaaGreatDoorTpTop
import Derived.Test.YthhadjnffeadfaaGreatDoorTpOwn
import Derived.Test.YthhadjnffeadfaaGreatDoorTextRefs
set_option linter.unusedSimpArgs false
set_option linter.unusedVariables false
namespace Go.Proofs.YthhadjnffeadfaaGreatDoor
open Go.RowKit

theorem refPlain_eq (l : List UInt8) (b : Bool) (w : World) (hl : l.length ≤ 1000000000) (h : plB l = b) :
    Calls Tryz.prog 33 #[.string ⟨l.toArray⟩] w fun e w' => e = .returned (.bool b) ∧ w' = w := by
  have hsz : (ByteArray.mk l.toArray).size = l.length := by show l.toArray.size = _; simp
  have H := Lib.hid h
  have hszH := Lib.hid hsz
  clear h hsz
  go_enter Tryz.func33, Tryz.ntmps33
  go_wp2_with fail
  go_loop [3] (fun i => ∃ k : Nat, i = .int .i64 k ∧ k ≤ l.length ∧ Hid (plB (l.drop k) = b)) (fun i => l.length - (intOf i).toNat)
  case atStart => exact ⟨0, rfl, by omega, H.out⟩
  case round =>
    obtain ⟨k, rfl, hk, hc⟩ := hrel
    by_cases hlt : k < l.length
    · obtain ⟨x, hx⟩ : ∃ x, l[k] = x := ⟨_, rfl⟩
      have hat : ∀ h' : k < (ByteArray.mk l.toArray).size, (ByteArray.mk l.toArray)[k]'h' = x := fun h' => hx
      have HD : Hid (plB (l.drop k) = ((x != 43 && x != 35) && plB (l.drop (k + 1)))) := by show _ = _; rw [drop_at l k hlt, hx]; rfl
      clear hx
      have hs2 : k < (ByteArray.mk l.toArray).size := by rw [hszH.out]; exact hlt
      have hn1 : ((x.toNat : Int) == 43) = (x == 43) := by rw [Bool.eq_iff_iff]; simp only [beq_iff_eq]; exact ⟨fun e => UInt8.toNat_inj.1 (by show x.toNat = 43; omega), fun e => by rw [e]; rfl⟩
      have hn2 : ((x.toNat : Int) == 35) = (x == 35) := by rw [Bool.eq_iff_iff]; simp only [beq_iff_eq]; exact ⟨fun e => UInt8.toNat_inj.1 (by show x.toNat = 35; omega), fun e => by rw [e]; rfl⟩
      cases h1 : x == 43 with
      | true =>
        rw [h1] at hn1
        have HB : Hid (b = false) := by show _ = _; rw [← hc.out, HD.out, bne, h1]; rfl
        clear HD h1 hn2
        go_wp2_with fail
        go_ret
        exact ⟨by rw [HB.out]; rfl, rfl⟩
      | false =>
        rw [h1] at hn1
        cases h2 : x == 35 with
        | true =>
          rw [h2] at hn2
          have HB : Hid (b = false) := by show _ = _; rw [← hc.out, HD.out, bne, bne, h1, h2]; rfl
          clear HD h1 h2
          go_wp2_with fail
          go_ret
          exact ⟨by rw [HB.out]; rfl, rfl⟩
        | false =>
          rw [h2] at hn2
          have HB : Hid (plB (l.drop (k + 1)) = b) := by show _ = _; rw [← hc.out, HD.out, bne, bne, h1, h2]; rfl
          clear HD h1 h2
          go_wp2_with fail
          go_round
          case rel => exact ⟨k + 1, by go_num, by omega, HB.out⟩
          case measure => simp [intOf]; omega
    · have HB : Hid (b = true) := by show _ = _; rw [← hc.out, List.drop_eq_nil_of_le (by omega)]; rfl
      go_wp2_with fail
      go_ret
      exact ⟨by rw [HB.out]; rfl, rfl⟩
theorem levs_take_slash (l : List UInt8) (k : Nat) (h : k < l.length) (hc : l[k] = 47) : levs (l.take (k + 1)) = levs (l.take k) ++ [[]] := by
  rw [List.take_succ_eq_append_getElem h, hc, levs_snoc_slash]
theorem levs_take_other (l : List UInt8) (k p : Nat) (x y : List UInt8) (b : UInt8) (h : k < l.length) (hc : l[k] = b) (hb : b ≠ 47) (hp : (levs (l.take k)).length = p + 1) (hx : (levs (l.take k))[p]? = some x) (hy : y = x ++ [b]) : levs (l.take (k + 1)) = (levs (l.take k)).set p y := by
  rw [List.take_succ_eq_append_getElem h, hc, levs_snoc _ _ hb]
  have hne := levs_ne (l.take k)
  have e1 : (levs (l.take k)).getLast hne = x := by
    rw [List.getLast_eq_getElem]
    have : (levs (l.take k)).length - 1 = p := by omega
    simp only [this]
    obtain ⟨_, h2⟩ := List.getElem?_eq_some_iff.1 hx
    exact h2
  rw [e1, hy]
  apply List.ext_getElem?
  intro j
  rw [List.getElem?_set]
  by_cases hj : p = j
  · subst hj
    rw [if_pos rfl, if_pos (by omega), List.getElem?_append_right (by simp [hp])]
    simp [hp]
  · rw [if_neg hj]
    by_cases hj2 : j < p
    · rw [List.getElem?_append_left (by simp [hp]; omega), List.getElem?_dropLast, if_pos (by omega)]
    · rw [List.getElem?_eq_none (by simp [hp]; omega), List.getElem?_eq_none (by omega)]
set_option maxHeartbeats 1000000 in
theorem refLevels_eq (l : List UInt8) (L : List (List UInt8)) (w : World) (hl : l.length ≤ 100000000) (h : levs l = L) :
    Calls Tryz.prog 52 #[.string ⟨l.toArray⟩] w fun e w' => LVP w L e w' := by
  have hsz : (ByteArray.mk l.toArray).size = l.length := by show l.toArray.size = _; simp
  have H := Lib.hid h
  have hszH := Lib.hid hsz
  clear h hsz
  go_enter Tryz.func52, Tryz.ntmps52
  go_wp2_with fail
  go_loopw [3, 4] (fun v i wr => ∃ k : Nat, i = .int .i64 k ∧ k ≤ l.length ∧ OwnS 9 w.heap.size w wr v (levs (l.take k))) (fun _ i _ => l.length - (intOf i).toNat)
  case atStart => exact ⟨0, rfl, by omega, OwnS.lit1 (Below.refl _ _) (Nat.le_refl _) []⟩
  case round =>
    obtain ⟨k, rfl, hk, hown⟩ := hrel
    by_cases hlt : k < l.length
    · obtain ⟨x, hx⟩ : ∃ x, l[k] = x := ⟨_, rfl⟩
      have hat : ∀ h' : k < (ByteArray.mk l.toArray).size, (ByteArray.mk l.toArray)[k]'h' = x := fun h' => hx
      have hs2 : k < (ByteArray.mk l.toArray).size := by rw [hszH.out]; exact hlt
      have hn1 : ((x.toNat : Int) == 47) = (x == 47) := by rw [Bool.eq_iff_iff]; simp only [beq_iff_eq]; exact ⟨fun e => UInt8.toNat_inj.1 (by show x.toNat = 47; omega), fun e => by rw [e]; rfl⟩
      have hll := levs_len (l.take k)
      rw [List.length_take] at hll
      cases h1 : x == 47 with
      | true =>
        rw [h1] at hn1
        have hx47 : x = 47 := by simpa using h1
        have HL : Hid (levs (l.take (k + 1)) = levs (l.take k) ++ [[]]) := levs_take_slash l k hlt (by rw [hx, hx47])
        clear hx hx47 h1
        obtain ⟨L0, hL0⟩ : ∃ L0, L0 = levs (l.take k) := ⟨_, rfl⟩
        rw [← hL0] at hown hll HL
        clear hL0
        go_wp2_with (at_builtin; refine wpList_sapp rfl _ _ 38 rfl Tryz.underlying38 infoS rfl (hown.alloc _) _ 1 1 [[]] rfl (strs_new1 _ _ _) (fun h => by cases h) (by omega) ?_)
        intro v' w3 hown3
        go_wp2_with fail
        go_roundw
        case rel => exact ⟨k + 1, by go_num, by omega, by rw [HL.out]; exact hown3⟩
        case measure => simp [intOf]; omega
      | false =>
        rw [h1] at hn1
        have hx47 : x ≠ 47 := by simpa using h1
        obtain ⟨g, c, rfl, hg, hgl, hcap, hS, hfr⟩ := hown.form1 (levs_ne _)
        obtain ⟨p, hp⟩ : ∃ p, (levs (l.take k)).length = p + 1 := ⟨(levs (l.take k)).length - 1, by have := levs_pos (l.take k); omega⟩
        obtain ⟨z, hz, hcell⟩ := hS.at0 (k := p) (by omega)
        obtain ⟨y, hy⟩ : ∃ y, y = z ++ [x] := ⟨_, rfl⟩
        have HL : Hid (levs (l.take (k + 1)) = (levs (l.take k)).set p y) := levs_take_other l k p z y x hlt hx hx47 hp hz hy
        have hzl : z.length ≤ l.length := by
          have := levs_bd (l.take k) z (List.mem_of_getElem? hz)
          rw [List.length_take] at this; omega
        have hadd : ∀ W, (Op.stringOp .add ⟨z.toArray⟩ ⟨[x].toArray⟩).run Tryz.prog W = .ok (.string ⟨y.toArray⟩) W := by
          intro W; rw [hy]; exact add_str W z [x] (by simp; omega)
        have hex : (l.take (k + 1)).drop k = [x] := by rw [List.take_succ_eq_append_getElem hlt, hx, List.drop_left' (by simp; omega)]
        have HOW := Lib.hid hown
        have hf := hfr p
        have hp2 : p < p + 1 := by omega
        have hpc : (p : Int) + 1 ≤ 1000000000 := by omega
        rw [hp] at HOW
        have HP := Lib.hid hp
        rw [hp]
        clear hx hx47 h1 hy hz hS hfr hcap hown hll hp
        go_wp2_with fail
        go_region
        go_wp2_with fail
        go_roundw
        case rel => exact ⟨k + 1, by go_num, by omega, by rw [HL.out]; have := (HOW.out.set HP.out.symm p (by omega) y).drew; simpa using this⟩
        case measure => simp [intOf]; omega
    · have hkl : k = l.length := by omega
      have hown2 : OwnS 9 w.heap.size w wr u3 (levs l) := by rw [hkl, List.take_length] at hown; exact hown
      rw [H.out] at hown2
      have hne : L ≠ [] := by rw [← H.out]; exact levs_ne l
      obtain ⟨g, c, rfl, hg, hgl, hcap, hS, hfr⟩ := hown2.form1 hne
      have hb := hown2.below
      clear hown hown2 hfr
      go_wp2_with fail
      go_ret
      exact ⟨g, c, rfl, hcap, hS, hb⟩
end Go.Proofs.YthhadjnffeadfaaGreatDoor
