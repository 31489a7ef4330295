/-
  trie: the document's own answers: Match, Of, Nodes.
-/
import Derived.Test.YtipdmfnkkkdlbaaGreatDoorTrAdd2
set_option linter.unusedSimpArgs false
set_option linter.unusedVariables false
namespace Go.Proofs.YtipdmfnkkkdlbaaGreatDoor
open Go.RowKit

theorem put_len (l : List (List UInt8)) (s : List UInt8) : (putL l s).length ≤ l.length + 1 := by
  unfold putL
  split
  · omega
  · rw [ins_len]; omega
theorem mat_take (L : List Hn) (n : List UInt8) (k : Nat) (x : Hn) (hx : L[k]? = some x) : matL (L.take (k + 1)) n = if matB x.1 n then putL (matL (L.take k) n) x.2 else matL (L.take k) n := by
  rw [List.take_add_one, hx]
  exact mat_snoc _ _ _
theorem mat_len (L : List Hn) (n : List UInt8) : (matL L n).length ≤ L.length := by
  refine snoc_ind (P := fun L => (matL L n).length ≤ L.length) (by simp [matL]) ?_ L
  intro l x ih
  rw [mat_snoc, List.length_append]
  split
  · have := put_len (matL l n) x.2; simp; omega
  · simp; omega
theorem of_take (L : List Hn) (c0 : List UInt8) (k : Nat) (x : Hn) (hx : L[k]? = some x) : ofL (L.take (k + 1)) c0 = if x.2 == c0 then ofL (L.take k) c0 ++ [x.1] else ofL (L.take k) c0 := by
  unfold ofL
  rw [List.take_add_one, hx, List.filter_append, List.map_append]
  by_cases e : x.2 = c0
  · simp [e]
  · simp [e]
section
variable {w w' : World} {g n c : Nat} {A : Option Addr} {L : List Hn}
theorem match_any (nm : List UInt8) (M : List (List UInt8)) (hT : RT w g A n c L) (hn : n ≤ 1000000) (hf : Hid (∀ h ∈ L, h.1.length ≤ 1000000)) (hl : nm.length ≤ 1000000) (hM : matL L nm = M) :
    Calls Tryz.prog 30 #[.pointer (some ⟨g, 0, none⟩), .string ⟨nm.toArray⟩] w fun e w' => SVP w M e w' := by
  have HT := Lib.hid hT
  have HM := Lib.hid hM
  have HL := Lib.hid hT.len
  clear hT hM
  go_enter Tryz.func30, Tryz.ntmps30
  go_wp2_with fail
  go_loopw [5, 6] (fun v i wr => ∃ (k : Nat) (O : List (List UInt8)), i = .int .i64 k ∧ k ≤ n ∧ O.length ≤ k ∧ Below w.heap.size w wr ∧ SVP w O (.returned v) wr ∧ Hid (matL (L.take k) nm = O)) (fun _ i _ => n - (intOf i).toNat)
  case atStart => exact ⟨0, [], rfl, by omega, by simp, Below.refl _ _, ⟨none, 0, rfl, Strs.nil _, .inl ⟨rfl, rfl⟩, by simp, Below.refl _ _⟩, by show _ = _; rw [List.take_zero]; rfl⟩
  case round =>
    obtain ⟨k, O, rfl, hk, hOl, hb, ⟨A5, c5, hv, hs5, hA5, hc5, _⟩, hc⟩ := hrel
    cases hv
    have hTr := HT.out.below hb
    have hcl := hTr.cell
    by_cases hlt : k < n
    · obtain ⟨b1, o1, x, rfl, hx, hc1, hc2⟩ := hTr.2.1.at_ hlt
      have hxl := hf.out x (List.mem_of_getElem? hx)
      have hmt := mat_take L nm k x hx
      have hpl := put_len O x.2
      obtain ⟨x1, x2⟩ := x
      rw [hc.out] at hmt
      clear hx hTr
      cases he : matB x1 nm with
      | true =>
        have HE := Lib.hid he
        obtain ⟨O2, hO2⟩ : ∃ O2, putL O x2 = O2 := ⟨_, rfl⟩
        have HN : Hid (matL (L.take (k + 1)) nm = O2) := by show _ = _; rw [hmt, if_pos he, hO2]
        rw [hO2] at hpl
        have HO2 := Lib.hid hO2
        clear hmt he hO2
        go_wp2_with fail
        refine (refMatch_eq x1 nm true _ (by omega) (by omega) HE.out).mono ?_
        rintro e w3 ⟨rfl, hb3⟩
        have hcl3 := (hb3.cell (World.block_lt_of_cell? _ _ hcl)).trans hcl
        have hc23 := (hb3.cell (World.block_lt_of_cell? _ _ hc2)).trans hc2
        replace hs5 := hs5.below hb3
        replace hb := below_more hb hb3
        clear hb3 hcl hc1 hc2
        go_wp2_with fail
        refine (put_eq x2 O2 hs5 hA5 hc5 (by omega) HO2.out).mono ?_
        rintro e w4 ⟨A6, c6, rfl, hs6, hA6, hc6, hb4⟩
        replace hb := below_more hb hb4
        clear hb4 hs5 hcl3 hc23
        go_wp2_with fail
        go_roundw
        case rel => exact ⟨k + 1, O2, by go_num, by omega, by omega, hb, ⟨A6, c6, rfl, hs6, hA6, hc6, hb⟩, HN⟩
        case measure => simp [intOf]; omega
      | false =>
        have HE := Lib.hid he
        have HN : Hid (matL (L.take (k + 1)) nm = O) := by show _ = _; rw [hmt, if_neg (by rw [he]; decide)]
        clear hmt he hpl
        go_wp2_with fail
        refine (refMatch_eq x1 nm false _ (by omega) (by omega) HE.out).mono ?_
        rintro e w3 ⟨rfl, hb3⟩
        replace hs5 := hs5.below hb3
        replace hb := below_more hb hb3
        clear hb3 hcl hc1 hc2
        go_wp2_with fail
        go_roundw
        case rel => exact ⟨k + 1, O, by go_num, by omega, by omega, hb, ⟨A5, c5, rfl, hs5, hA5, hc5, hb⟩, HN⟩
        case measure => simp [intOf]; omega
    · have HN : O = M := by rw [← hc.out, List.take_of_length_le (by rw [HL.out]; omega)]; exact HM.out
      subst HN
      clear hTr
      go_wp2_with fail
      go_ret
      exact ⟨A5, c5, rfl, hs5, hA5, hc5, hb⟩
theorem of_any (c0 : List UInt8) (M : List (List UInt8)) (hT : RT w g A n c L) (hn : n ≤ 1000000) (hM : ofL L c0 = M) :
    Calls Tryz.prog 17 #[.pointer (some ⟨g, 0, none⟩), .string ⟨c0.toArray⟩] w fun e w' => SVP w M e w' := by
  have HT := Lib.hid hT
  have HM := Lib.hid hM
  have HL := Lib.hid hT.len
  clear hT hM
  go_enter Tryz.func17, Tryz.ntmps17
  go_wp2_with fail
  go_loopw [5, 6] (fun v i wr => ∃ (k : Nat) (O : List (List UInt8)), i = .int .i64 k ∧ k ≤ n ∧ O.length ≤ k ∧ OwnS 9 w.heap.size w wr v O ∧ Hid (ofL (L.take k) c0 = O)) (fun _ i _ => n - (intOf i).toNat)
  case atStart => exact ⟨0, [], rfl, by omega, by simp, OwnS.nil (Below.refl _ _) (Nat.le_refl _), by show _ = _; rw [List.take_zero]; rfl⟩
  case round =>
    obtain ⟨k, O, rfl, hk, hOl, hO, hc⟩ := hrel
    have hTr := HT.out.below hO.below
    have hcl := hTr.cell
    by_cases hlt : k < n
    · obtain ⟨b1, o1, x, rfl, hx, hc1, hc2⟩ := hTr.2.1.at_ hlt
      have hmt := of_take L c0 k x hx
      obtain ⟨x1, x2⟩ := x
      rw [hc.out] at hmt
      clear hx hTr
      cases he : x2 == c0 with
      | true =>
        have HN : Hid (ofL (L.take (k + 1)) c0 = O ++ [x1]) := by show _ = _; rw [hmt, if_pos he]
        clear hmt
        go_wp2_with (at_builtin; refine wpList_sapp rfl _ _ 36 rfl Tryz.underlying36 infoS rfl (hO.alloc _) _ 1 1 [x1] rfl (strs_new1 _ _ _) (fun h => by cases h) (by omega) ?_)
        intro v2 w2 hO2
        go_wp2_with fail
        go_roundw
        case rel => exact ⟨k + 1, O ++ [x1], by go_num, by omega, by rw [List.length_append]; simp; omega, hO2, HN⟩
        case measure => simp [intOf]; omega
      | false =>
        have HN : Hid (ofL (L.take (k + 1)) c0 = O) := by show _ = _; rw [hmt, if_neg (by rw [he]; decide)]
        clear hmt
        go_wp2_with fail
        go_roundw
        case rel => exact ⟨k + 1, O, by go_num, by omega, by omega, hO, HN⟩
        case measure => simp [intOf]; omega
    · have HN : O = M := by rw [← hc.out, List.take_of_length_le (by rw [HL.out]; omega)]; exact HM.out
      subst HN
      have hS := OwnS.told hO
      clear hTr
      go_wp2_with fail
      go_ret
      exact hS
end
end Go.Proofs.YtipdmfnkkkdlbaaGreatDoor
