/-
  keep: the document's own answers, in the world.
-/
import Derived.Test.YthhadjnffeadfaaGreatDoorKpAwake
import Derived.Test.YthhadjnffeadfaaGreatDoorTpRef3
set_option linter.unusedSimpArgs false
set_option linter.unusedVariables false
namespace Go.Proofs.YthhadjnffeadfaaGreatDoor
open Go.RowKit

/-- The document's store at g: its messages are L. -/
def RK (w : World) (g : Nat) (A : Option Addr) (n c : Nat) (L : List Ms) : Prop := (∃ T : TypeId, w.heap[g]? = some (.cells #[.slice A n c] T (0, 0))) ∧ Msgs w A n L ∧ (A = none ∧ c = 0 ∨ ∃ b, A = some ⟨b, 0, none⟩) ∧ n ≤ c
section
variable {w w' : World} {g n c : Nat} {A : Option Addr} {L : List Ms}
theorem RK.lt (h : RK w g A n c L) : g < w.heap.size := by
  obtain ⟨T, h1⟩ := h.1
  exact (Array.getElem?_eq_some_iff.1 h1).1
theorem RK.below (h : RK w g A n c L) (hb : Below w.heap.size w w') : RK w' g A n c L := ⟨h.1.imp fun T h1 => (hb.block g h.lt).trans h1, h.2.1.below hb, h.2.2⟩
theorem RK.cell (h : RK w g A n c L) : w.cell? ⟨g, 0, none⟩ = some (.slice A n c) := by
  obtain ⟨T, h1⟩ := h.1
  exact cell_of_row w g 0 _ _ (0, 0) h1
theorem RK.froz (h : RK w g A n c L) : ∀ i, w.frozen? ⟨g, i, none⟩ = false := fun i => by
  obtain ⟨T, h1⟩ := h.1
  unfold World.frozen?
  rw [h1]; simp
theorem RK.len (h : RK w g A n c L) : L.length = n := h.2.1.len
theorem RK.outs {G : Nat → Prop} (h : RK w g A n c L) (hU : Outs w w' G) (hg : ¬ G g) (hA : ∀ b o, A = some ⟨b, o, none⟩ → 0 < n → ¬ G b) : RK w' g A n c L :=
  ⟨h.1.imp fun T h1 => (hU.block g h.lt hg).trans h1, ⟨h.2.1.1, fun h0 => by
    obtain ⟨b, off, e, hc⟩ := h.2.1.2 h0
    exact ⟨b, off, e, fun j x hx => hU.cell _ _ (hc j x hx) (hA b off e h0)⟩⟩, h.2.2⟩
theorem RK.set {A' : Option Addr} {n' c' : Nat} {M : List Ms} (h : RK w g A n c L) (h2 : Msgs w A' n' M) (hA : A' = none ∧ c' = 0 ∨ ∃ b, A' = some ⟨b, 0, none⟩) (hc : n' ≤ c') (hne : ∀ b o, A' = some ⟨b, o, none⟩ → b ≠ g) : RK (w.setCell ⟨g, 0, none⟩ (.slice A' n' c')) g A' n' c' M := by
  refine ⟨?_, ⟨h2.1, fun h0 => ?_⟩, hA, hc⟩
  · obtain ⟨T, h1⟩ := h.1
    exact ⟨T, heap_setCell_same w g 0 _ _ _ h1⟩
  · obtain ⟨b, off, e, hcl⟩ := h2.2 h0
    refine ⟨b, off, e, fun j u hu => ?_⟩
    rw [World.cell?_setCell_other _ _ _ _ (fun e2 => ?_)]
    · exact hcl j u hu
    · injection e2 with e3
      exact hne b off e e3.symm
set_option maxHeartbeats 1000000 in
theorem rMay (w : World) (m : Ms) (r : Bool) (hl : m.1.length ≤ 1000000000) (hr : mayB m = r) :
    Calls Tryz.prog 9 #[.agg #[.string ⟨m.1.toArray⟩, .string ⟨m.2.1.toArray⟩, .int .u8 m.2.2.1, .bool m.2.2.2]] w fun e w' => e = .returned (.bool r) ∧ Below w.heap.size w w' := by
  obtain ⟨s, p, q, b⟩ := m
  dsimp only at hl
  obtain ⟨W, hW⟩ : ∃ W, W = w.alloc (.cells #[.string ⟨s.toArray⟩, .string ⟨p.toArray⟩, .int .u8 q, .bool b] 32) := ⟨_, rfl⟩
  have hbW : Below w.heap.size w W := by rw [hW]; exact below_alloc (Below.refl _ _) _
  have hX : BxM W w.heap.size (s, p, q, b) := by rw [hW]; exact BxM.new w (s, p, q, b)
  have HX := Lib.hid hX
  have k1 := hX.c0
  unfold mayB at hr
  dsimp only at hr k1
  cases hn : namB s with
  | false =>
    rw [hn, Bool.false_and] at hr
    subst hr
    have HN := Lib.hid hn
    clear hn hX
    go_enter Tryz.func9, Tryz.ntmps9
    go_wp2_with fail
    rw [← hW]
    refine (refName_eq s false _ hl HN.out).mono ?_
    rintro e w1 ⟨rfl, hb1⟩
    go_wp2_with fail
    go_ret
    exact ⟨rfl, hbW.trans (hb1.mono hbW.size)⟩
  | true =>
    rw [hn, Bool.true_and] at hr
    have HN := Lib.hid hn
    clear hn hX
    go_enter Tryz.func9, Tryz.ntmps9
    go_wp2_with fail
    rw [← hW]
    refine (refName_eq s true _ hl HN.out).mono ?_
    rintro e w1 ⟨rfl, hb1⟩
    have k3 := (HX.out.below hb1).c2
    dsimp only at k3
    go_wp2_with fail
    go_ret
    exact ⟨by rw [← hr]; rfl, hbW.trans (hb1.mono hbW.size)⟩
set_option maxRecDepth 100000 in
set_option maxHeartbeats 1000000 in
theorem rGet (hT : RK w g A n c L) (hn : n ≤ 1000000) (s : List UInt8) (m : Ms) (r : Bool) (hm : (getM L s).getD zMs = m) (hr : (getM L s).isSome = r) :
    Calls Tryz.prog 14 #[.pointer (some ⟨g, 0, none⟩), .string ⟨s.toArray⟩] w fun e w' => e = .returned (.tuple #[.agg #[.string ⟨m.1.toArray⟩, .string ⟨m.2.1.toArray⟩, .int .u8 m.2.2.1, .bool m.2.2.2], .bool r]) ∧ Below w.heap.size w w' := by
  obtain ⟨W, hW⟩ : ∃ W, W = w.alloc (.cells #[.string ⟨#[]⟩, .string ⟨#[]⟩, .int .u8 0, .bool false] 32) := ⟨_, rfl⟩
  have hbW : Below w.heap.size w W := by rw [hW]; exact below_alloc (Below.refl _ _) _
  have HX : Hid (BxM W w.heap.size ([], [], 0, false)) := by show BxM _ _ _; rw [hW]; exact BxM.new w ([], [], 0, false)
  have HT := Lib.hid (hT.below hbW)
  have HL := Lib.hid hT.len
  have HM := Lib.hid hm
  have HR := Lib.hid hr
  clear hT hm hr
  go_enter Tryz.func14, Tryz.ntmps14
  go_wp2_with fail
  rw [← hW]
  clear hW
  go_loopw [6] (fun i wr => ∃ k : Nat, i = .int .i64 k ∧ k ≤ n ∧ W = wr ∧ Hid (getM (L.take k) s = none)) (fun i _ => n - (intOf i).toNat)
  case atStart => exact ⟨0, rfl, by omega, rfl, by show _ = _; rw [List.take_zero]; rfl⟩
  case round =>
    obtain ⟨k, rfl, hk, rfl, hc⟩ := hrel
    have hcell := HT.out.cell
    by_cases hlt : k < n
    · obtain ⟨b1, o1, x, rfl, hx, q0, q1, q2, q3⟩ := HT.out.2.1.at_ hlt
      have hst : getM (L.take (k + 1)) s = if x.1 = s then some x else none := by
        unfold getM
        have h9 : (L.take k).find? (fun x => x.1 == s) = none := hc.out
        rw [List.take_add_one, hx, List.find?_append, h9]
        by_cases he : x.1 = s <;> simp [he]
      obtain ⟨x1, x2, x3, x4⟩ := x
      dsimp only at q0 q1 q2 q3 hst
      by_cases he : x1 = s
      · subst he
        rw [if_pos rfl] at hst
        have hg : getM L x1 = some (x1, x2, x3, x4) := by
          unfold getM at hst ⊢
          have h8 : L = L.take (k + 1) ++ L.drop (k + 1) := (List.take_append_drop _ _).symm
          rw [h8, List.find?_append, hst]
          rfl
        have z0 := HX.out.c0; have z1 := HX.out.c1; have z2 := HX.out.c2; have z3 := HX.out.c3; have zf := HX.out.fr
        dsimp only at z0 z1 z2 z3
        have hm := HM.out
        have hr := HR.out
        rw [hg] at hm hr
        have hm1 : m = (x1, x2, x3, x4) := hm.symm
        have hr1 : r = true := hr.symm
        subst hm1 hr1
        clear hx hst hg hm hr
        go_wp2_with fail
        refine ret_ms2 (m := (x1, x2, x3, x4)) 4 5 rfl rfl rfl ((((HX.out.set0 x1).set1 x2).set2 x3).set3 x4) rfl ⟨rfl, ?_⟩
        exact (((hbW.setCell (p := ⟨w.heap.size, 0, none⟩) (Nat.le_refl _) _).setCell (p := ⟨w.heap.size, 1, none⟩) (Nat.le_refl _) _).setCell (p := ⟨w.heap.size, 2, none⟩) (Nat.le_refl _) _).setCell (p := ⟨w.heap.size, 3, none⟩) (Nat.le_refl _) _
      · rw [if_neg he] at hst
        have HN : Hid (getM (L.take (k + 1)) s = none) := hst
        have he2 : (x1 == s) = false := by simpa using he
        clear hx hst
        go_wp2_with fail
        go_roundw
        case rel => exact ⟨k + 1, by go_num, by omega, by trivial, HN⟩
        case measure => simp [intOf]; omega
    · have hg : getM L s = none := by rw [← hc.out, List.take_of_length_le (by rw [HL.out]; omega)]
      have z0 := HX.out.c0; have z1 := HX.out.c1; have z2 := HX.out.c2; have z3 := HX.out.c3; have zf := HX.out.fr
      dsimp only at z0 z1 z2 z3
      have hm := HM.out
      have hr := HR.out
      rw [hg] at hm hr
      have hm1 : m = ([], [], 0, false) := hm.symm
      have hr1 : r = false := hr.symm
      subst hm1 hr1
      clear hg hm hr
      go_wp2_with fail
      refine ret_ms2 (m := ([], [], 0, false)) 4 5 rfl rfl rfl ((((HX.out.set0 []).set1 []).set2 0).set3 false) rfl ⟨rfl, ?_⟩
      exact (((hbW.setCell (p := ⟨w.heap.size, 0, none⟩) (Nat.le_refl _) _).setCell (p := ⟨w.heap.size, 1, none⟩) (Nat.le_refl _) _).setCell (p := ⟨w.heap.size, 2, none⟩) (Nat.le_refl _) _).setCell (p := ⟨w.heap.size, 3, none⟩) (Nat.le_refl _) _
theorem fnd_take (L : List Ms) (f : List UInt8) (k : Nat) (x : Ms) (h : L[k]? = some x) : fndM (L.take (k + 1)) f = if matB f x.1 then fndM (L.take k) f ++ [x] else fndM (L.take k) f := by
  unfold fndM
  rw [List.take_add_one, h, List.filter_append]
  cases hx : matB f x.1 <;> simp [hx]
set_option maxRecDepth 100000 in
set_option maxHeartbeats 1000000 in
theorem rFind (hT : RK w g A n c L) (hn : n ≤ 1000000) (hl : ∀ x ∈ L, x.1.length ≤ 1000000) (f : List UInt8) (hf : f.length ≤ 1000000) :
    Calls Tryz.prog 18 #[.pointer (some ⟨g, 0, none⟩), .string ⟨f.toArray⟩] w fun e w' => OMP w (fndM L f) e w' := by
  have HT := Lib.hid hT
  have HL := Lib.hid hT.len
  have HLL := Lib.hid hl
  clear hT hl
  go_enter Tryz.func18, Tryz.ntmps18
  go_wp2_with fail
  go_loopw [5, 6] (fun v i wr => ∃ k : Nat, i = .int .i64 k ∧ k ≤ n ∧ OwnM w.heap.size w wr v (fndM (L.take k) f)) (fun v i _ => n - (intOf i).toNat)
  case atStart => exact ⟨0, rfl, by omega, by rw [List.take_zero]; exact OwnM.nil (Below.refl _ _) (Nat.le_refl _)⟩
  case round =>
    obtain ⟨k, rfl, hk, hO⟩ := hrel
    have HO := Lib.hid hO
    have hT2 := HT.out.below hO.below
    have hcell := hT2.cell
    by_cases hlt : k < n
    · obtain ⟨b1, o1, x, rfl, hx, hat⟩ := hT2.2.1.at_ hlt
      have hft := fnd_take L f k x hx
      have hxl := HLL.out x (List.mem_of_getElem? hx)
      have hrl : (fndM (L.take k) f).length ≤ 1000000 := by
        have h1 := fnd_len (L.take k) f
        rw [List.length_take] at h1
        omega
      have HT2 := Lib.hid hT2
      have HAT := Lib.hid hat
      obtain ⟨x1, x2, x3, x4⟩ := x
      obtain ⟨q0, q1, q2, q3⟩ := hat
      dsimp only at q0 q1 q2 q3 hft hxl
      obtain ⟨r, hr⟩ : ∃ r, matB f x1 = r := ⟨_, rfl⟩
      rw [hr] at hft
      have HR := Lib.hid hr
      have HFT := Lib.hid hft
      clear hx hft hr hO hT2
      go_wp2_with fail
      refine (refMatch_eq f x1 r _ (by omega) (by omega) HR.out).mono ?_
      rintro e w4 ⟨rfl, hb4⟩
      have hO4 := HO.out.more hb4
      have hcell4 := (HT2.out.below hb4).cell
      obtain ⟨q0, q1, q2, q3⟩ := HAT.out.below hb4
      dsimp only at q0 q1 q2 q3
      have HO4 := Lib.hid hO4
      clear hO4 hb4 hcell
      cases r with
      | false =>
        go_wp2_with fail
        go_roundw
        case rel => exact ⟨k + 1, by go_num, by omega, by rw [HFT.out, if_neg (by decide)]; exact HO4.out⟩
        case measure => simp [intOf]; omega
      | true =>
        go_wp2_with (at_builtin; refine wpList_mapp rfl _ _ rfl rfl (HO4.out.alloc _) _ 1 1 [(x1, x2, x3, x4)] rfl (msgs_new w4 (x1, x2, x3, x4) _) (fun e => by cases e) (by omega) ?_; intro v8 w8 hO8 hgr8)
        go_wp2_with fail
        go_roundw
        case rel => exact ⟨k + 1, by go_num, by omega, by rw [HFT.out]; first | rw [if_pos rfl]; exact hO8 | rw [if_pos trivial]; exact hO8⟩
        case measure => simp [intOf]; omega
    · have hkN : L.take k = L := List.take_of_length_le (by rw [HL.out]; omega)
      rw [hkN] at HO
      clear hO
      go_wp2_with fail
      go_ret
      exact ⟨_, rfl, HO.out⟩
end
end Go.Proofs.YthhadjnffeadfaaGreatDoor
