/-
  The document's own lists: whether a packet's Subs and Codes may be.
-/
import Derived.Test.YtphdooaihbmnlaaGreatDoorPkRc
set_option linter.unusedSimpArgs false
set_option linter.unusedVariables false
namespace Go.Proofs.YtphdooaihbmnlaaGreatDoor
open Go.RowKit
def sbK (t10 : Bool) (x : List UInt8 × Int) : Bool := flB x.1 && (!decide (2 < x.2) && !(t10 && decide (0 < x.2)))
def cdK (b : UInt8) : Bool := !(decide (2 < (b.toNat : Int)) && (b.toNat : Int) != 128)
def lsB (p : Pk) (xs : List (List UInt8 × Int)) : Bool := xs.all (sbK (p.ty == 10)) && (p.codes.all cdK && ((((p.ty == 8) || (p.ty == 10)) == decide (0 < xs.length)) && ((p.ty == 9) == decide (0 < p.codes.length))))
theorem all_drop {α : Type} (f : α → Bool) (l : List α) (k : Nat) (h : k < l.length) : (l.drop k).all f = (f l[k] && (l.drop (k + 1)).all f) := by
  rw [List.drop_eq_getElem_cons h, List.all_cons]
set_option maxRecDepth 100000 in
set_option maxHeartbeats 4000000 in
theorem refLists_eq (p : Pk) (A : Option Addr) (n c : Nat) (xs : List (List UInt8 × Int)) (r : Bool) (w : World) (hs : Subs w A n xs) (hf : Fit p xs) (h : lsB p xs = r) :
    Calls Tryz.prog 30 #[.agg (PkC p A n c)] w fun e w' => e = .returned (.bool r) ∧ Below w.heap.size w w' := by
  have hK0 := (Kp.nil w).new (PkC p A n c) 27
  obtain ⟨l1, l2, l3, l4, l5, l6, l7, l8, l9⟩ := hf.lens2
  have hn : n ≤ 200 := by have := hf.num; have := hs.len; omega
  have hlen := Lib.hid hs.len
  have hsm := Lib.hid (sumB_mem xs)
  have hsu := Lib.hid hf.sub
  have HS := Lib.hid hs
  obtain ⟨a8, h8⟩ : ∃ r, (p.ty == 8) = r := ⟨_, rfl⟩
  obtain ⟨a9, h9⟩ : ∃ r, (p.ty == 9) = r := ⟨_, rfl⟩
  obtain ⟨a10, h10⟩ : ∃ r, (p.ty == 10) = r := ⟨_, rfl⟩
  obtain ⟨last, hla⟩ : ∃ b, ((((p.ty == 8) || (p.ty == 10)) == decide (0 < xs.length)) && ((p.ty == 9) == decide (0 < p.codes.length))) = b := ⟨_, rfl⟩
  have H : Hid ((xs.all (sbK a10) && (p.codes.all cdK && last)) = r) := by show _ = _; rw [← h, lsB, hla, h10]
  rw [h8, h9, h10, hs.len] at hla
  have HLA := Lib.hid hla
  clear hs hf h hla
  go_enter Tryz.func30, Tryz.ntmps30
  go_upto_region 1 with fail
  obtain ⟨wv, hwv⟩ : ∃ wv : World, wv = w.alloc (.cells (PkC p A n c) 27) := ⟨_, rfl⟩
  rw [← hwv] at hK0 ⊢
  clear hwv
  have p1r := hK0.row; have p1f := hK0.free; have p1c := hK0.cell; have p1l := hK0.lt; have p1z := hK0.froz
  go_wp2_with fail
  go_loopw [3] (fun i wr => ∃ (k : Nat), i = .int .i64 k ∧ k ≤ n ∧ Kp w [(w.heap.size, PkC p A n c, 27)] wr ∧ Hid (((xs.drop k).all (sbK a10) && (p.codes.all cdK && last)) = r)) (fun i _ => n - (intOf i).toNat)
  case atStart => exact ⟨0, rfl, by omega, hK0, H⟩
  case round =>
    clear p1r p1f p1c p1l p1z hK0 H
    obtain ⟨k, rfl, hk, hKr, hc⟩ := hrel
    have e1r := hKr.row; have e1f := hKr.free; have e1c := hKr.cell; have e1l := hKr.lt; have e1z := hKr.froz
    by_cases hlt : k < n
    · have hlt2 : (k : Int) < (n : Int) := by omega
      obtain ⟨bx, off, x, rfl, hx, hx1, hx2⟩ := (HS.out.below hKr.below).two hlt
      have hs1 := Lib.hid (sb_all (sbK a10) xs k x hx)
      have hxl := hsm.out x (List.mem_of_getElem? hx)
      have hxu := hsu.out x (List.mem_of_getElem? hx)
      cases hfl : flB x.1 with
      | false =>
        have HF := Lib.hid hfl
        have HB : Hid (false = r) := by show _ = _; rw [← hc.out, hs1.out, sbK, hfl]; rfl
        clear hfl hs1 hc
        go_wp2_with fail
        refine (refFilter_eq x.1 false _ (by omega) HF.out).mono ?_
        rintro e w7 ⟨rfl, hb7⟩
        go_wp2_with fail
        go_ret
        exact ⟨by rw [← HB.out]; rfl, below_more hKr.below hb7⟩
      | true =>
        have HF := Lib.hid hfl
        obtain ⟨q2, hq2⟩ : ∃ q, decide (2 < x.2) = q := ⟨_, rfl⟩
        obtain ⟨q0, hq0⟩ : ∃ q, decide (0 < x.2) = q := ⟨_, rfl⟩
        have HD : Hid (((!q2 && !(a10 && q0)) && ((xs.drop (k + 1)).all (sbK a10) && (p.codes.all cdK && last))) = r) := by
          show _ = _
          rw [← hc.out, hs1.out, sbK, hfl, hq2, hq0, Bool.true_and]
          simp only [Bool.and_assoc]
        have HX := Lib.hid hx1
        have HX2 := Lib.hid hx2
        have hbr := hKr.below
        clear hfl hs1 hc hx
        go_wp2_with fail
        refine (refFilter_eq x.1 true _ (by omega) HF.out).mono ?_
        rintro e w7 ⟨rfl, hb7⟩
        have hK7 := hKr.more hb7
        have hx7 : w7.cell? ⟨bx, off + k * 2 + 1, none⟩ = some (.int .u8 x.2) := by
          obtain ⟨b', o', x', e, hx', h1', h2'⟩ := (HS.out.below hK7.below).two hlt
          cases e
          have hxx : x' = x := by
            have h1 := HX.out
            obtain ⟨b2, o2, x2, e2, hx2', h12, h22⟩ := (HS.out.below hbr).two hlt
            cases e2
            rw [hx2'] at hx'
            cases hx'
            have h3 := h12.symm.trans h1
            have h4 := h22.symm.trans HX2.out
            cases x'; cases x
            simp at h3 h4
            simp [h3, h4]
          rw [h2', hxx]
        clear hb7 e1r e1f e1c e1l e1z hx1 hx2
        have s1r := hK7.row; have s1f := hK7.free; have s1c := hK7.cell; have s1l := hK7.lt; have s1z := hK7.froz
        have hfin := hK7.below
        cases q2
        · cases a10
          · have HC : Hid (((xs.drop (k + 1)).all (sbK false) && (p.codes.all cdK && last)) = r) := by show _ = _; rw [← HD.out]; rfl
            go_wp2_with fail
            go_roundw
            case rel => exact ⟨k + 1, by go_num, by omega, hK7, HC⟩
            case measure => simp [intOf]; omega
          · cases q0
            · have HC : Hid (((xs.drop (k + 1)).all (sbK true) && (p.codes.all cdK && last)) = r) := by show _ = _; rw [← HD.out]; rfl
              go_wp2_with fail
              go_roundw
              case rel => exact ⟨k + 1, by go_num, by omega, hK7, HC⟩
              case measure => simp [intOf]; omega
            · have HB : Hid (false = r) := by show _ = _; rw [← HD.out]; rfl
              go_wp2_with fail
              go_ret
              exact ⟨by rw [← HB.out]; rfl, hfin⟩
        · have HB : Hid (false = r) := by show _ = _; rw [← HD.out]; rfl
          go_wp2_with fail
          go_ret
          exact ⟨by rw [← HB.out]; rfl, hfin⟩
    · obtain rfl : k = n := by omega
      have H2 : Hid ((p.codes.all cdK && last) = r) := by
        show _ = _
        rw [← hc.out, List.drop_eq_nil_of_le (by have := hlen.out; omega)]
        rfl
      have hlt2 : ¬ (k : Int) < (k : Int) := by omega
      clear hc hlt
      go_wp2_with fail
      clear e1r e1f e1c e1l e1z
      go_loopw [4] (fun i wz => ∃ (j : Nat), i = .int .i64 j ∧ j ≤ p.codes.length ∧ Kp w [(w.heap.size, PkC p A k c, 27)] wz ∧ Hid (((p.codes.drop j).all cdK && last) = r)) (fun i _ => p.codes.length - (intOf i).toNat)
      case atStart => exact ⟨0, rfl, by omega, hKr, H2⟩
      case round =>
        clear hKr H2
        obtain ⟨j, rfl, hj, hKz, hc⟩ := hrel
        have e1r := hKz.row; have e1f := hKz.free; have e1c := hKz.cell; have e1l := hKz.lt; have e1z := hKz.froz
        have hfin := hKz.below
        by_cases hlt : j < p.codes.length
        · have hlt2 : (j : Int) < (p.codes.length : Int) := by omega
          have hx := byte_at p.codes j hlt
          have hs1 := all_drop cdK p.codes j hlt
          obtain ⟨b, hb⟩ : ∃ b, p.codes[j] = b := ⟨_, rfl⟩
          simp only [hb] at hx hs1
          obtain ⟨q2, hq2⟩ : ∃ q, decide (2 < (b.toNat : Int)) = q := ⟨_, rfl⟩
          obtain ⟨qe, hqe⟩ : ∃ q, ((b.toNat : Int) != 128) = q := ⟨_, rfl⟩
          have HD : Hid ((!(q2 && qe) && ((p.codes.drop (j + 1)).all cdK && last)) = r) := by
            show _ = _
            rw [← hc.out, hs1, cdK, hq2, hqe]
            simp only [Bool.and_assoc]
          clear hs1 hc hb
          cases q2
          · have HC : Hid (((p.codes.drop (j + 1)).all cdK && last) = r) := by show _ = _; rw [← HD.out]; rfl
            go_wp2_with fail
            go_roundw
            case rel => exact ⟨j + 1, by go_num, by omega, hKz, HC⟩
            case measure => simp [intOf]; omega
          · cases qe
            · have HC : Hid (((p.codes.drop (j + 1)).all cdK && last) = r) := by show _ = _; rw [← HD.out]; rfl
              go_wp2_with fail
              go_roundw
              case rel => exact ⟨j + 1, by go_num, by omega, hKz, HC⟩
              case measure => simp [intOf]; omega
            · have HB : Hid (false = r) := by show _ = _; rw [← HD.out]; rfl
              go_wp2_with fail
              go_ret
              exact ⟨by rw [← HB.out]; rfl, hfin⟩
        · have hlt2 : ¬ (j : Int) < (p.codes.length : Int) := by omega
          have HB : Hid (last = r) := by show _ = _; rw [← hc.out, List.drop_eq_nil_of_le (by omega)]; rfl
          clear hc
          obtain ⟨d1, hd1⟩ : ∃ q, decide (0 < k) = q := ⟨_, rfl⟩
          obtain ⟨d2, hd2⟩ : ∃ q, decide (0 < p.codes.length) = q := ⟨_, rfl⟩
          have HV : Hid ((((a8 || a10) == d1) && (a9 == d2)) = r) := by
            show _ = _
            rw [← HB.out, ← HLA.out, ← hd1, ← hd2]
          clear HLA HB
          cases a8 <;> cases a10 <;> cases d1 <;> cases a9 <;> cases d2
          all_goals
            go_wp2_with fail
            go_ret
            exact ⟨by rw [← HV.out]; rfl, hfin⟩
end Go.Proofs.YtphdooaihbmnlaaGreatDoor
