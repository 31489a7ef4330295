/-
  trie: the document's own answers: Nodes.
-/
import Derived.Test.YtipdmfnkkkdlbaaGreatDoorTrTell
set_option linter.unusedSimpArgs false
set_option linter.unusedVariables false
namespace Go.Proofs.YtipdmfnkkkdlbaaGreatDoor
open Go.RowKit

theorem nod_take (L : List Hn) (k : Nat) (x : Hn) (hx : L[k]? = some x) : nodA (L.take (k + 1)) = nodF [] (nodA (L.take k)) (levs x.1) := by
  unfold nodA
  rw [List.take_add_one, hx, Option.toList_some, List.foldl_append]; rfl
theorem nodF_at (s : List UInt8) (O : List (List UInt8)) (l : List (List UInt8)) (j : Nat) (x : List UInt8) (hx : l[j]? = some x) : nodF s O (l.drop j) = nodF (s ++ x ++ [47]) (putL O (s ++ x ++ [47])) (l.drop (j + 1)) := by
  have hlt := (List.getElem?_eq_some_iff.1 hx).1
  have e := (List.getElem?_eq_some_iff.1 hx).2
  rw [List.drop_eq_getElem_cons hlt, e]; rfl
section
variable {w w' : World} {g n c : Nat} {A : Option Addr} {L : List Hn}
set_option maxHeartbeats 1000000 in
theorem nodes_any (v : Int) (hT : RT w g A n c L) (hn : n ≤ 1000) (hf : Hid (∀ h ∈ L, h.1.length ≤ 500)) (hM : nodL L = v) :
    Calls Tryz.prog 31 #[.pointer (some ⟨g, 0, none⟩)] w fun e w' => e = .returned (.int .i64 v) ∧ Below w.heap.size w w' := by
  have HT := Lib.hid hT
  have HM : Hid (((nodA L).length : Int) + 1 = v) := hM
  have HL := Lib.hid hT.len
  clear hT hM
  go_enter Tryz.func31, Tryz.ntmps31
  go_wp2_with fail
  go_loopw [3, 4, 5, 6, 7] (fun v i _ _ _ wr => ∃ (k : Nat) (O : List (List UInt8)), i = .int .i64 k ∧ k ≤ n ∧ O.length ≤ 501 * k ∧ Below w.heap.size w wr ∧ SVP w O (.returned v) wr ∧ Hid (nodA (L.take k) = O)) (fun _ i _ _ _ _ => n - (intOf i).toNat)
  case atStart => exact ⟨0, [], rfl, by omega, by simp, Below.refl _ _, ⟨none, 0, rfl, Strs.nil _, .inl ⟨rfl, rfl⟩, by simp, Below.refl _ _⟩, by show _ = _; rw [List.take_zero]; rfl⟩
  case round =>
    obtain ⟨k, O, rfl, hk, hOl, hb, ⟨A5, c5, hv, hs5, hA5, hc5, _⟩, hc⟩ := hrel
    cases hv
    have hTr := HT.out.below hb
    have hcl := hTr.cell
    by_cases hlt : k < n
    · obtain ⟨b1, o1, x, rfl, hx, hc1, hc2⟩ := hTr.2.1.at_ hlt
      have hxl := hf.out x (List.mem_of_getElem? hx)
      have hmt := nod_take L k x hx
      obtain ⟨x1, x2⟩ := x
      rw [hc.out] at hmt
      have hll := levs_len x1
      have HB : Hid (∀ y ∈ levs x1, y.length ≤ 500) := fun y hy => by have := levs_bd x1 y hy; exact Nat.le_trans this hxl
      obtain ⟨V, hV⟩ : ∃ V, levs x1 = V := ⟨_, rfl⟩
      have hmt2 : nodA (L.take (k + 1)) = nodF [] O V := by rw [hmt]; show nodF [] O (levs x1) = _; rw [hV]
      rw [hV] at hll HB
      have HV := Lib.hid hV
      have HMT := Lib.hid hmt2
      have hvl : V.length ≤ 501 := by have : x1.length ≤ 500 := hxl; omega
      clear hx hTr hmt hmt2 hV
      go_wp2_with fail
      refine (refLevels_eq x1 V _ (by have : x1.length ≤ 500 := hxl; omega) HV.out).mono ?_
      rintro e w3 ⟨gl, cl, rfl, _, hsl, hb3⟩
      replace hs5 := hs5.below hb3
      replace hb := below_more hb hb3
      clear hb3 hcl hc1 hc2
      have HSL := Lib.hid hsl
      obtain ⟨w9, hw9⟩ : ∃ w9, w9 = w3 := ⟨_, rfl⟩
      rw [← hw9] at hs5 hb HSL ⊢
      clear hsl hw9 w3
      go_wp2_with fail
      go_loopw [3, 6, 7] (fun v s i wr => ∃ (j : Nat) (sx : List UInt8) (P : List (List UInt8)), i = .int .i64 j ∧ s = .string ⟨sx.toArray⟩ ∧ j ≤ V.length ∧ sx.length ≤ 501 * j ∧ P.length ≤ 501 * k + j ∧ Below w9.heap.size w9 wr ∧ SVP w9 P (.returned v) wr ∧ Hid (nodF sx P (V.drop j) = nodF [] O V)) (fun _ _ i _ => V.length - (intOf i).toNat)
      case atStart => exact ⟨0, [], O, rfl, rfl, by omega, by simp, by omega, Below.refl _ _, ⟨A5, c5, rfl, hs5, hA5, hc5, Below.refl _ _⟩, by show _ = _; rw [List.drop_zero]⟩
      case round =>
        clear hs5 hA5 hc5
        obtain ⟨j, sx, P, rfl, rfl, hj, hsx, hPl, hb4, ⟨A6, c6, hv, hs6, hA6, hc6, _⟩, hd⟩ := hrel
        cases hv
        by_cases hjl : j < V.length
        · obtain ⟨y, hy, hcy⟩ := (HSL.out.below hb4).at0 (k := j) hjl
          have hyl := HB.out y (List.mem_of_getElem? hy)
          have hna := nodF_at sx P V j y hy
          obtain ⟨s1, hs1⟩ : ∃ s1, sx ++ y = s1 := ⟨_, rfl⟩
          obtain ⟨s2, hs2⟩ : ∃ s2, s1 ++ [47] = s2 := ⟨_, rfl⟩
          have l1 : s1.length = sx.length + y.length := by rw [← hs1, List.length_append]
          have l2 : s2.length ≤ 501 * (j + 1) := by rw [← hs2, List.length_append]; simp; omega
          have had1 : ∀ W, (Op.stringOp .add ⟨sx.toArray⟩ ⟨y.toArray⟩).run Tryz.prog W = .ok (.string ⟨s1.toArray⟩) W := by
            intro W; rw [← hs1]; exact add_str W sx y (by omega)
          have had2 : ∀ W, (Op.stringOp .add ⟨s1.toArray⟩ ⟨[47].toArray⟩).run Tryz.prog W = .ok (.string ⟨s2.toArray⟩) W := by
            intro W; rw [← hs2]; exact add_str W s1 [47] (by simp; omega)
          rw [hs1, hs2] at hna
          obtain ⟨P2, hP2⟩ : ∃ P2, putL P s2 = P2 := ⟨_, rfl⟩
          have hpl := put_len P s2
          rw [hP2] at hna hpl
          have HN : Hid (nodF s2 P2 (V.drop (j + 1)) = nodF [] O V) := by show _ = _; rw [← hna]; exact hd.out
          have HP2 := Lib.hid hP2
          clear hy hna hs1 hs2 hP2 l1
          go_wp2_with fail
          refine (put_eq s2 P2 hs6 hA6 hc6 (by omega) HP2.out).mono ?_
          rintro e w4 ⟨A7, c7, rfl, hs7, hA7, hc7, hb7⟩
          replace hb4 := below_more hb4 hb7
          clear hb7 hs6 hcy
          go_wp2_with fail
          go_roundw
          case rel => exact ⟨j + 1, s2, P2, by go_num, rfl, by omega, l2, by omega, hb4, ⟨A7, c7, rfl, hs7, hA7, hc7, hb4⟩, HN⟩
          case measure => simp [intOf]; omega
        · have hje : j = V.length := by omega
          have HN : Hid (nodA (L.take (k + 1)) = P) := by
            show _ = _
            rw [HMT.out, ← hd.out, List.drop_eq_nil_of_le (by omega)]; rfl
          have hbz := below_more hb hb4
          have hPl2 : P.length ≤ 501 * (k + 1) := by omega
          clear hje
          go_wp2_with fail
          go_roundw
          case rel => exact ⟨k + 1, P, by go_num, by omega, hPl2, hbz, ⟨A6, c6, rfl, hs6, hA6, hc6, hbz⟩, HN⟩
          case measure => simp [intOf]; omega
    · have HN : O = nodA L := by rw [← hc.out, List.take_of_length_le (by rw [HL.out]; omega)]
      have HV : Hid ((O.length : Int) + 1 = v) := by show _ = _; rw [HN]; exact HM.out
      have hOb : O.length ≤ 501000 := by omega
      clear hTr HN hs5
      go_wp2_with fail
      go_ret
      exact ⟨by rw [← HV.out]; rfl, hb⟩
end
end Go.Proofs.YtipdmfnkkkdlbaaGreatDoor
