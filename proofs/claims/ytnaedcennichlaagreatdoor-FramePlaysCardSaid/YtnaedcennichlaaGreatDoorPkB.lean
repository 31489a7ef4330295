/-
  packet: codes, login, will.
-/
import Derived.Test.YtnaedcennichlaaGreatDoorPkA
set_option linter.unusedSimpArgs false
set_option linter.unusedVariables false
namespace Go.Proofs.YtnaedcennichlaaGreatDoor
open Go.RowKit
set_option maxRecDepth 100000

theorem cells_kept {w w6 : World} {cs : Array Value} {t : TypeId} (hb : Below (w.alloc (.cells cs t)).heap.size (w.alloc (.cells cs t)) w6) : ∀ i, w6.cell? ⟨w.heap.size, i, none⟩ = cs[i]? := by
  intro i
  rw [hb.cell (p := ⟨w.heap.size, i, none⟩) (by simp), World.cell?_alloc_new]
theorem isCd_at (l : List UInt8) (k : Nat) (hk : k < l.length) : (l.drop k).all isCd = (isCd l[k] && (l.drop (k + 1)).all isCd) := by
  rw [List.drop_eq_getElem_cons hk, List.all_cons]
theorem rightCodes_any (l : List UInt8) (w : World) (hl : l.length ≤ 1000000000) :
    Calls Tryz.prog 100 #[.string ⟨l.toArray⟩] w fun e w' => e = .returned (.bool (cdB l)) ∧ w = w' := by
  have hsz : (ByteArray.mk l.toArray).size = l.length := by show l.toArray.size = _; simp
  go_enter Tryz.func100, Tryz.ntmps100
  go_wp2
  go_loop [3, 6] (fun _ i => ∃ k : Nat, i = .int .i64 k ∧ k ≤ l.length ∧ Hid (l.all isCd = (l.drop k).all isCd)) (fun _ i => l.length - (intOf i).toNat)
  case atStart => exact ⟨0, rfl, by omega, rfl⟩
  case round =>
    obtain ⟨k, rfl, hk, hc⟩ := hrel
    by_cases hlt : k < l.length
    · have hlt2 : (k : Int) < (l.length : Int) := by omega
      have hx := byte_at l k hlt
      have HD := Lib.hid (isCd_at l k hlt)
      by_cases h2 : l[k].toNat ≤ 2
      · have h2' : (l[k].toNat : Int) ≤ 2 := by omega
        have HC : Hid (isCd l[k] = true) := by show isCd _ = true; simp [isCd, h2]
        go_wp2
        go_round
        case rel => exact ⟨k + 1, by go_num, by omega, by show _ = _; rw [hc.out, HD.out, HC.out, Bool.true_and]⟩
        case measure => simp [intOf]; omega
      · have h2' : 2 < (l[k].toNat : Int) := by omega
        by_cases h8 : l[k].toNat = 128
        · have HC : Hid (isCd l[k] = true) := by show isCd _ = true; simp [isCd, h8]
          have h8' : (l[k].toNat : Int) = 128 := by omega
          clear h2 h2' h8
          go_wp2
          go_round
          case rel => exact ⟨k + 1, by go_num, by omega, by show _ = _; rw [hc.out, HD.out, HC.out, Bool.true_and]⟩
          case measure => simp [intOf]; omega
        · have HC : Hid (isCd l[k] = false) := by show isCd _ = false; simp [isCd, h8]; omega
          have h8' : ¬ (l[k].toNat : Int) = 128 := by omega
          clear h2 h8
          go_wp2
          go_ret
          exact ⟨ret_bool (by unfold cdB; rw [hc.out, HD.out, HC.out]; simp), rfl⟩
    · have HE : Hid (l.drop k = []) := List.drop_eq_nil_of_le (by omega)
      go_wp2
      go_ret
      exact ⟨ret_bool (by unfold cdB; rw [hc.out, HE.out]; simp), rfl⟩
set_option maxHeartbeats 4000000 in
theorem rightLogin_any (p : Pk) (A : Option Addr) (n c : Nat) (w : World) (hu : p.user.length ≤ 1000000000) (hp : p.pass.length ≤ 1000000000) :
    Calls Tryz.prog 96 #[.agg (PkC p A n c)] w fun e w' => e = .returned (.bool (lgB p)) ∧ Below w.heap.size w w' := by
  have hb : Below w.heap.size w w := Below.refl _ _
  cases h1 : p.hasUser <;> cases h2 : p.hasPass <;> by_cases h3 : p.user = [] <;> by_cases h4 : p.pass = [] <;> by_cases h5 : p.pass.length ≤ 65535
  all_goals
    go_enter Tryz.func96, Tryz.ntmps96
    go_wp2_with (go_at_call 74; refine (textValid_eq _ _ _ (by omega) rfl).mono ?_; rintro e w6 ⟨rfl, hb6⟩; have hcs := cells_kept hb6)
    all_goals go_ret
    all_goals
      first
      | exact ⟨ret_bool (by simp [lgB, *]), (Below.refl _ _).alloc (Nat.le_refl _) _⟩
      | exact ⟨ret_bool (by simp [lgB, *]), below_more (below_alloc hb _) hb6⟩
theorem rightWill_any (p : Pk) (A : Option Addr) (n c : Nat) (w : World) (ht : p.wt.length ≤ 1000000000) (hl : p.wl.length ≤ 1000000000) :
    Calls Tryz.prog 95 #[.agg (PkC p A n c)] w fun e w' => e = .returned (.bool (wlB p)) ∧ Below w.heap.size w w' := by
  have hb : Below w.heap.size w w := Below.refl _ _
  cases h1 : p.hasWill with
  | false =>
    go_enter Tryz.func95, Tryz.ntmps95
    go_wp2_with fail
    go_ret
    exact ⟨ret_bool (by unfold wlB; rw [h1]; rfl), (Below.refl _ _).alloc (Nat.le_refl _) _⟩
  | true =>
    cases h2 : nmB p.wt with
    | false =>
      have HN := Lib.hid h2
      clear h2
      go_enter Tryz.func95, Tryz.ntmps95
      go_wp2_with fail
      refine (isName_eq _ false _ ht HN.out).mono ?_
      rintro e w6 ⟨rfl, hb6⟩
      replace hb := below_more (below_alloc hb _) hb6
      go_wp2_with fail
      go_ret
      exact ⟨ret_bool (by unfold wlB; rw [h1, HN.out]; rfl), hb⟩
    | true =>
      have HN := Lib.hid h2
      clear h2
      go_enter Tryz.func95, Tryz.ntmps95
      go_wp2_with fail
      refine (isName_eq _ true _ ht HN.out).mono ?_
      rintro e w6 ⟨rfl, hb6⟩
      have hc1 : w6.cell? ⟨w.heap.size, 13, none⟩ = some (.string ⟨p.wl.toArray⟩) := by
        rw [hb6.cell (p := ⟨w.heap.size, 13, none⟩) (by simp), World.cell?_alloc_new]; exact PkC_13
      have hc2 : w6.cell? ⟨w.heap.size, 14, none⟩ = some (.int .u8 p.wq) := by
        rw [hb6.cell (p := ⟨w.heap.size, 14, none⟩) (by simp), World.cell?_alloc_new]; exact PkC_14
      replace hb := below_more (below_alloc hb _) hb6
      clear hb6
      go_wp2_with fail
      all_goals go_ret
      all_goals exact ⟨ret_bool (by unfold wlB; rw [h1, HN.out]; simp [*]; try omega), hb⟩
set_option maxHeartbeats 1000000 in
theorem takeCodes_any (p : Pk) (A : Option Addr) (n c : Nat) (w : World) (hl : p.codes.length ≤ 100000) :
    Calls Tryz.prog 90 #[.agg (PkC p A n c)] w fun e w' => e = .returned (.agg (TkC (decide (0 < p.id) && cdB p.codes) (2 + p.codes.length) ((p.s_id 0).s_codes []) A n c)) ∧ Below w.heap.size w w' := by
  have hK0 := (((Kp.nil w).new (PkC p A n c) 36).new (TkC false 0 zPk none 0 0) 109).swap
  simp only [World.size_alloc] at hK0
  cases hid : decide (0 < p.id) with
  | true =>
    go_enter Tryz.func90, Tryz.ntmps90
    go_wp2_with fail
    refine (takeId_any p A n c _).mono ?_
    rintro e w6 ⟨rfl, hb6⟩
    have hP := hK0.more hb6
    clear hb6 hK0
    have p1r := hP.row; have p1f := hP.free; have p1c := hP.cell; have p1l := hP.lt; have p1z := hP.froz
    have p2r := hP.tail.row; have p2f := hP.tail.free; have p2c := hP.tail.cell; have p2l := hP.tail.lt; have p2z := hP.tail.froz
    have hbp := hP.below
    have n1 := Nat.ne_of_lt p1l; have n2 := Nat.ne_of_gt p1l; have n3 := Nat.ne_of_lt p2l; have n4 := Nat.ne_of_gt p2l
    go_wp2_with (go_at_call 100; refine (rightCodes_any _ _ (by omega)).mono ?_; rintro e w7 ⟨rfl, rfl⟩)
    refine ret_tk 2 _ _ (true && cdB p.codes) _ (2 + p.codes.length) _ ((p.s_id 0).s_codes []) A n c rfl rfl (by go_simp; rfl) rfl ?_ ?_ ?_ ⟨rfl, ?_⟩
    · simp
    · first | rfl | (rw [IntWalk.wrap64_in _ (by omega)])
    · rfl
    · repeat (first | exact hbp | refine below_setRow ?_ (by omega) _ | refine Below.alloc ?_ (by simp; omega) _)
  | false =>
    go_enter Tryz.func90, Tryz.ntmps90
    go_wp2_with fail
    refine (takeId_any p A n c _).mono ?_
    rintro e w6 ⟨rfl, hb6⟩
    have hP := hK0.more hb6
    clear hb6 hK0
    have p1r := hP.row; have p1f := hP.free; have p1c := hP.cell; have p1l := hP.lt; have p1z := hP.froz
    have p2r := hP.tail.row; have p2f := hP.tail.free; have p2c := hP.tail.cell; have p2l := hP.tail.lt; have p2z := hP.tail.froz
    have hbp := hP.below
    have n1 := Nat.ne_of_lt p1l; have n2 := Nat.ne_of_gt p1l; have n3 := Nat.ne_of_lt p2l; have n4 := Nat.ne_of_gt p2l
    go_wp2_with (go_at_call 100; refine (rightCodes_any _ _ (by omega)).mono ?_; rintro e w7 ⟨rfl, rfl⟩)
    refine ret_tk 2 _ _ (false && cdB p.codes) _ (2 + p.codes.length) _ ((p.s_id 0).s_codes []) A n c rfl rfl (by go_simp; rfl) rfl ?_ ?_ ?_ ⟨rfl, ?_⟩
    · simp
    · first | rfl | (rw [IntWalk.wrap64_in _ (by omega)])
    · rfl
    · repeat (first | exact hbp | refine below_setRow ?_ (by omega) _ | refine Below.alloc ?_ (by simp; omega) _)
end Go.Proofs.YtnaedcennichlaaGreatDoor
