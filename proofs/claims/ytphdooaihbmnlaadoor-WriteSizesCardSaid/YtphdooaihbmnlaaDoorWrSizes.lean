/-
  WriteSizes.
-/
import Derived.Test.YtphdooaihbmnlaaDoorWrLaw
set_option linter.unusedSimpArgs false
set_option linter.unusedVariables false
namespace Go.Proofs.YtphdooaihbmnlaaDoor
open Go.RowKit
set_option maxRecDepth 100000
namespace lawWriteSizes
section
variable {p : Pk} {xs : List (List UInt8 × Int)}
theorem ld_level (q : Pk) (x : Int) : (q.s_level x).load = q.load := rfl
theorem cd_level (q : Pk) (x : Int) : (q.s_level x).codes = q.codes := rfl
theorem ld_clean (q : Pk) (x : Bool) : (q.s_clean x).load = q.load := rfl
theorem cd_clean (q : Pk) (x : Bool) : (q.s_clean x).codes = q.codes := rfl
theorem ld_keep (q : Pk) (x : Int) : (q.s_keep x).load = q.load := rfl
theorem cd_keep (q : Pk) (x : Int) : (q.s_keep x).codes = q.codes := rfl
theorem ld_client (q : Pk) (x : List UInt8) : (q.s_client x).load = q.load := rfl
theorem cd_client (q : Pk) (x : List UInt8) : (q.s_client x).codes = q.codes := rfl
theorem ld_hasWill (q : Pk) (x : Bool) : (q.s_hasWill x).load = q.load := rfl
theorem cd_hasWill (q : Pk) (x : Bool) : (q.s_hasWill x).codes = q.codes := rfl
theorem ld_hasUser (q : Pk) (x : Bool) : (q.s_hasUser x).load = q.load := rfl
theorem cd_hasUser (q : Pk) (x : Bool) : (q.s_hasUser x).codes = q.codes := rfl
theorem ld_user (q : Pk) (x : List UInt8) : (q.s_user x).load = q.load := rfl
theorem cd_user (q : Pk) (x : List UInt8) : (q.s_user x).codes = q.codes := rfl
theorem ld_hasPass (q : Pk) (x : Bool) : (q.s_hasPass x).load = q.load := rfl
theorem cd_hasPass (q : Pk) (x : Bool) : (q.s_hasPass x).codes = q.codes := rfl
theorem ld_pass (q : Pk) (x : List UInt8) : (q.s_pass x).load = q.load := rfl
theorem cd_pass (q : Pk) (x : List UInt8) : (q.s_pass x).codes = q.codes := rfl
theorem ld_present (q : Pk) (x : Bool) : (q.s_present x).load = q.load := rfl
theorem cd_present (q : Pk) (x : Bool) : (q.s_present x).codes = q.codes := rfl
theorem ld_code (q : Pk) (x : Int) : (q.s_code x).load = q.load := rfl
theorem cd_code (q : Pk) (x : Int) : (q.s_code x).codes = q.codes := rfl
theorem ld_id (q : Pk) (x : Int) : (q.s_id x).load = q.load := rfl
theorem cd_id (q : Pk) (x : Int) : (q.s_id x).codes = q.codes := rfl
theorem ld_dup (q : Pk) (x : Bool) : (q.s_dup x).load = q.load := rfl
theorem cd_dup (q : Pk) (x : Bool) : (q.s_dup x).codes = q.codes := rfl
theorem ld_topic (q : Pk) (x : List UInt8) : (q.s_topic x).load = q.load := rfl
theorem cd_topic (q : Pk) (x : List UInt8) : (q.s_topic x).codes = q.codes := rfl
theorem ld_qos (q : Pk) (x : Int) : (q.s_qos x).load = q.load := rfl
theorem cd_qos (q : Pk) (x : Int) : (q.s_qos x).codes = q.codes := rfl
theorem ld_ret (q : Pk) (x : Bool) : (q.s_ret x).load = q.load := rfl
theorem cd_ret (q : Pk) (x : Bool) : (q.s_ret x).codes = q.codes := rfl
theorem ld_ty (q : Pk) (x : Int) : (q.s_ty x).load = q.load := rfl
theorem cd_ty (q : Pk) (x : Int) : (q.s_ty x).codes = q.codes := rfl
theorem ld_will (q : Pk) (a b : List UInt8) (c : Int) (d : Bool) : (q.s_will a b c d).load = q.load := rfl
theorem cd_will (q : Pk) (a b : List UInt8) (c : Int) (d : Bool) : (q.s_will a b c d).codes = q.codes := rfl
theorem ld_codes (q : Pk) (x : List UInt8) : (q.s_codes x).load = q.load := rfl
theorem cd_load (q : Pk) (x : List UInt8) : (q.s_load x).codes = q.codes := rfl
theorem load_take (e : p.ty ≠ 3) : (takeL p).load = p.load := by
  unfold takeL
  rw [if_neg (show ¬ p.ty = 3 from e)]
  split
  · simp only [conL, ackL, ld_level, ld_clean, ld_keep, ld_client, ld_hasWill, ld_hasUser, ld_user, ld_hasPass, ld_pass, ld_present, ld_code, ld_id, ld_dup, ld_topic, ld_qos, ld_ret, ld_ty, ld_will, ld_codes]
  split
  · simp only [conL, ackL, ld_level, ld_clean, ld_keep, ld_client, ld_hasWill, ld_hasUser, ld_user, ld_hasPass, ld_pass, ld_present, ld_code, ld_id, ld_dup, ld_topic, ld_qos, ld_ret, ld_ty, ld_will, ld_codes]
  split
  · simp only [conL, ackL, ld_level, ld_clean, ld_keep, ld_client, ld_hasWill, ld_hasUser, ld_user, ld_hasPass, ld_pass, ld_present, ld_code, ld_id, ld_dup, ld_topic, ld_qos, ld_ret, ld_ty, ld_will, ld_codes]
  split
  · simp only [conL, ackL, ld_level, ld_clean, ld_keep, ld_client, ld_hasWill, ld_hasUser, ld_user, ld_hasPass, ld_pass, ld_present, ld_code, ld_id, ld_dup, ld_topic, ld_qos, ld_ret, ld_ty, ld_will, ld_codes]
  split
  · simp only [conL, ackL, ld_level, ld_clean, ld_keep, ld_client, ld_hasWill, ld_hasUser, ld_user, ld_hasPass, ld_pass, ld_present, ld_code, ld_id, ld_dup, ld_topic, ld_qos, ld_ret, ld_ty, ld_will, ld_codes]
  split
  · simp only [conL, ackL, ld_level, ld_clean, ld_keep, ld_client, ld_hasWill, ld_hasUser, ld_user, ld_hasPass, ld_pass, ld_present, ld_code, ld_id, ld_dup, ld_topic, ld_qos, ld_ret, ld_ty, ld_will, ld_codes]
  · rfl
theorem load0 (h : Ok p xs) (e : p.ty ≠ 3) : p.load = [] := by
  have z : ((takeL p).s_ty 0).load = zPk.load := by rw [h.zero]
  have z2 : (takeL p).load = [] := z
  rw [load_take e] at z2
  exact z2
theorem codes_take (e : p.ty ≠ 9) : (takeL p).codes = p.codes := by
  unfold takeL
  rw [if_neg (show ¬ p.ty = 9 from e)]
  split
  · simp only [conL, ackL, cd_level, cd_clean, cd_keep, cd_client, cd_hasWill, cd_hasUser, cd_user, cd_hasPass, cd_pass, cd_present, cd_code, cd_id, cd_dup, cd_topic, cd_qos, cd_ret, cd_ty, cd_will, cd_load]
  split
  · simp only [conL, ackL, cd_level, cd_clean, cd_keep, cd_client, cd_hasWill, cd_hasUser, cd_user, cd_hasPass, cd_pass, cd_present, cd_code, cd_id, cd_dup, cd_topic, cd_qos, cd_ret, cd_ty, cd_will, cd_load]
  split
  · unfold pubL; split <;> simp only [cd_level, cd_clean, cd_keep, cd_client, cd_hasWill, cd_hasUser, cd_user, cd_hasPass, cd_pass, cd_present, cd_code, cd_id, cd_dup, cd_topic, cd_qos, cd_ret, cd_ty, cd_will, cd_load]
  split
  · simp only [conL, ackL, cd_level, cd_clean, cd_keep, cd_client, cd_hasWill, cd_hasUser, cd_user, cd_hasPass, cd_pass, cd_present, cd_code, cd_id, cd_dup, cd_topic, cd_qos, cd_ret, cd_ty, cd_will, cd_load]
  split
  · simp only [conL, ackL, cd_level, cd_clean, cd_keep, cd_client, cd_hasWill, cd_hasUser, cd_user, cd_hasPass, cd_pass, cd_present, cd_code, cd_id, cd_dup, cd_topic, cd_qos, cd_ret, cd_ty, cd_will, cd_load]
  split
  · simp only [conL, ackL, cd_level, cd_clean, cd_keep, cd_client, cd_hasWill, cd_hasUser, cd_user, cd_hasPass, cd_pass, cd_present, cd_code, cd_id, cd_dup, cd_topic, cd_qos, cd_ret, cd_ty, cd_will, cd_load]
  · rfl
theorem codes0 (h : Ok p xs) (e : p.ty ≠ 9) : p.codes = [] := by
  have z : ((takeL p).s_ty 0).codes = zPk.codes := by rw [h.zero]
  have z2 : (takeL p).codes = [] := z
  rw [codes_take e] at z2
  exact z2
theorem enc_tail (h : Ok p xs) : ∃ H, encL p xs = H ++ (p.load ++ p.codes) ∧ ((p.load ++ p.codes).length : Int) ≤ restN p xs := by
  have key : ∃ H, bodyL p xs = H ++ (p.load ++ p.codes) := by
    by_cases e3 : p.ty = 3
    · refine ⟨fieldL p.topic ++ (if 0 < p.qos then wordL p.id else []), ?_⟩
      rw [codes0 h (by omega), List.append_nil]
      unfold bodyL
      simp only [e3]
      simp [pubX]
    · by_cases e9 : p.ty = 9
      · refine ⟨wordL p.id, ?_⟩
        rw [load0 h e3, List.nil_append]
        unfold bodyL
        simp only [e9]
        rfl
      · exact ⟨bodyL p xs, by rw [load0 h e3, codes0 h e9]; simp⟩
  obtain ⟨H, hH⟩ := key
  have hl := body_len h
  refine ⟨toB (p.ty * 16 + flagsN p) :: (lenL 3 (restN p xs) ++ H), by unfold encL; rw [hH]; simp, ?_⟩
  rw [hH, List.length_append] at hl
  omega
end
theorem rd_eq (l : List UInt8) (a b c : Int) (w : World) (hl : l.length ≤ 9223372036854775807) (h : rdR l = (a, b, c)) :
    Calls Tryd.prog 16 #[.string ⟨l.toArray⟩] w fun e w' => e = .returned (.tuple #[.int .i64 a, .int .i64 b, .int .i64 c]) ∧ w = w' := by
  have := numReadLen_any l w hl
  rw [h] at this
  exact this
theorem sizeW_eq (n z : Int) (w : World) (h0 : 0 ≤ n) (h1 : n ≤ 268435455) (h : sizeF n = z) :
    Calls Tryd.prog 17 #[.int .i64 n] w fun e w' => e = .returned (.int .i64 z) ∧ w = w' := by
  subst h; exact numSize_yes n w h0 h1
set_option maxHeartbeats 16000000 in
theorem walk (w : World) (hG : Glo w) (p : Pk) (A : Option Addr) (n c : Nat) (xs : List (List UInt8 × Int)) (hs : Subs w A n xs) (hc : A = none → c = 0) (hp : Came p xs) :
    Calls Tryd.prog 5 #[.agg (PkC p A n c)] w fun e w' => e = .returned (.bool true) ∧ Below w.heap.size w w' := by
  have hK0 := (Kp.nil w).new (PkC p A n c) 27
  have hn1 := hs.len
  have HG := Lib.hid hG
  have HS := Lib.hid hs
  have HC := Lib.hid hp
  have HZ := Lib.hid hc
  clear hG hs hp hc
  go_enter Tryd.func5, Tryd.ntmps5
  go_wp2_with fail
  refine (great_any p A n c xs _ (HS.out.below hK0.below) HC.out).mono ?_
  rintro e w1 ⟨g, rfl, hgr, hb1⟩
  have hK1 := hK0.more hb1
  clear hb1 hK0
  have a1r := hK1.row; have a1f := hK1.free; have a1c := hK1.cell; have a1l := hK1.lt; have a1z := hK1.froz
  cases g with
  | true =>
    clear hgr
    go_wp2_with fail
    refine (awake_any _ (HG.out.below hK1.below)).mono ?_
    rintro e w2 ⟨rfl, hb2⟩
    go_wp2_with fail
    go_ret
    exact ⟨rfl, below_more hK1.below hb2⟩
  | false =>
    have hF := fit_came HC.out (hgr rfl).1 (hgr rfl).2
    clear hgr
    have HF := Lib.hid hF
    clear hF
    obtain ⟨v, hv⟩ : ∃ v, restN p xs = v := ⟨_, rfl⟩
    obtain ⟨S, hS⟩ : ∃ S, encL p xs = S := ⟨_, rfl⟩
    by_cases h0 : 0 ≤ v
    · have hO : Ok p xs := ok_of (hv ▸ h0)
      have E1 : Hid (encR p xs = (S, 0)) := by show _ = _; unfold encR; rw [hv, if_pos h0, hS]
      have Z1 : Hid (sizR p xs = (S.length : Int)) := (encR_ok E1.out).2.2
      have h1 : v ≤ 268435455 := by rw [← hv]; exact hO.hi
      have hvs := sizeF_bd v
      have hlen : (S.length : Int) = 1 + sizeF v + v := by have := enc_len hO; rw [hS, hv] at this; exact this
      obtain ⟨H, hH, hT⟩ := enc_tail hO
      rw [hS] at hH
      rw [hv] at hT
      obtain ⟨E, hE⟩ : ∃ E, p.load ++ p.codes = E := ⟨_, rfl⟩
      have hlq : p.load.length + p.codes.length ≤ 30000 := by have h1 := HF.out.tot; unfold totB at h1; omega
      have had := fun W => add_str (P := Tryd.prog) W p.load p.codes (by omega)
      rw [hE] at had hH hT
      have fb := flags_bd hO HF.out.num'
      have hty := hO.ty
      obtain ⟨x0, hx0⟩ : ∃ x0, p.ty * 16 + flagsN p = x0 := ⟨_, rfl⟩
      have x00 : 0 ≤ x0 := by omega
      have x01 : x0 < 256 := by omega
      have hbx := toB_toNat x0 x00 x01
      have hq : x0.tdiv 16 = p.ty := by rw [Int.tdiv_eq_ediv_of_nonneg x00]; omega
      have hwq : IntKind.u8.wrap p.ty = p.ty := IntWalk.u8_in _ (by omega)
      obtain ⟨T, hTT⟩ : ∃ T, lenL 3 v ++ bodyL p xs = T := ⟨_, rfl⟩
      obtain ⟨z, hz⟩ : ∃ z, sizeF v = z := ⟨_, rfl⟩
      have hrd : Hid (rdR T = (v, z, 0)) := by show _ = _; rw [← hTT, rdR_back v _ h0 h1, hz]
      have hS1 : S = toB x0 :: T := by rw [← hS, ← hTT, ← hx0, ← hv]; rfl
      rw [hz] at hlen hvs
      have HSZ := Lib.hid hz
      have hTl : T.length ≤ 9223372036854775807 := by have h2 := congrArg List.length hS1; simp only [List.length_cons] at h2; omega
      have hSl : 0 < S.length := by rw [hS1]; simp
      have hg := byte_at S 0 hSl (by show _ < S.toArray.size; simpa using hSl)
      have hS0 : S[0]'hSl = toB x0 := by subst hS1; rfl
      rw [hS0] at hg
      have hT1 : S.tail = T := by rw [hS1]; rfl
      have hSH : S.length = H.length + E.length := by rw [hH, List.length_append]
      have hE1 : S.drop H.length = E := by rw [hH, List.drop_left]
      have hl2 : decide ((S.length : Int) < 2) = false := by simp; omega
      have hl3 : (1 : Int) ≤ (S.length : Int) := by omega
      have hw1 : IntKind.i64.wrap (1 + z) = 1 + z := IntWalk.i64_in _ (by omega)
      have hw2 : IntKind.i64.wrap (1 + z + v) = (S.length : Int) := by rw [IntWalk.i64_in _ (by omega)]; omega
      have hw3 : IntKind.i64.wrap ((S.length : Int) - (E.length : Int)) = (H.length : Int) := by rw [IntWalk.i64_in _ (by omega)]; omega
      have hHS : (H.length : Int) ≤ (S.length : Int) := by omega
      have HHE := Lib.hid hE
      have HH := Lib.hid hH
      have HS1 := Lib.hid hS1
      have HTT := Lib.hid hTT
      have V1 := Lib.hid hv
      have HLN := Lib.hid hlen
      have HSH := Lib.hid hSH
      clear hv hH hE hS1 hTT hz hx0 hS0 hS hO hlq fb hlen hSH hty x00 x01
      have K_had := Lib.hid had
      have K_hT1 := Lib.hid hT1
      have K_hE1 := Lib.hid hE1
      have K_hw1 := Lib.hid hw1
      have K_hw2 := Lib.hid hw2
      have K_hw3 := Lib.hid hw3
      have K_hHS := Lib.hid hHS
      have K_hl3 := Lib.hid hl3
      have K_hTl := Lib.hid hTl
      clear had hT1 hE1 hw1 hw2 hw3 hHS hl3 hTl
      go_wp2_with fail
      refine (encode_eq p A n c xs S 0 _ (HG.out.below hK1.below) (HS.out.below hK1.below) HZ.out HF.out E1.out).mono ?_
      rintro e w3 ⟨rfl, hb3⟩
      have hK2 := hK1.more hb3
      clear hb3 hK1 a1r a1f a1c a1l a1z
      have a1r := hK2.row; have a1f := hK2.free; have a1c := hK2.cell; have a1l := hK2.lt; have a1z := hK2.froz
      go_wp2_with fail
      refine (rest_eq p A n c xs v _ (HG.out.below hK2.below) (HS.out.below hK2.below) HF.out V1.out).mono ?_
      rintro e w4 ⟨rfl, hb4⟩
      have hK3 := hK2.more hb4
      clear hb4 hK2 a1r a1f a1c a1l a1z
      have a1r := hK3.row; have a1f := hK3.free; have a1c := hK3.cell; have a1l := hK3.lt; have a1z := hK3.froz
      go_upto_region 7 with fail
      refine wp_region_held_drew (S := Kp w [(w.heap.size, PkC p A n c, 27)]) (by kernel_rfl) hK3.drew (fun hHeld => ?_)
      clear hK3 a1r a1f a1c a1l a1z
      generalize hwd : World.drew _ = we at hHeld ⊢
      clear hwd
      refine wpAnyH_take (i := 0) (oi := ({ dst := some 36, op := Go.Op.move (Go.Operand.tmp 4), type := 32, pos := "outright.go:35", after := #[], guard := none } : Oper)) (v := ?vw1) rfl (by kernel_rfl) (by kernel_rfl) (by kernel_rfl) (fun _ _ _ h => h) (Or.inl ⟨by rfl, ?hz1⟩) (by assumption) ?rs1
      case hz1 => (intro wz hSw; (try have hq1 := hSw.tail.cell); (try have hq2 := hSw.tail.tail.cell); (try have hq3 := hSw.cell); (try have hq4 := hSw.tail.row); (try have hq5 := hSw.tail.tail.row); (try have hq6 := hSw.row); (try have hq7 := hSw.tail.tail.tail.row); (try clear hSw); go_simp; all_goals with_reducible rfl)
      try simp only [Act.put, List.setIfInBounds_toArray, List.set_cons_zero, List.set_cons_succ]
      refine wpAnyH_take (i := 1) (oi := ({ dst := some 37, op := Go.Op.binOp Go.BinOp.neq 32 (Go.Operand.tmp 36) (Go.Operand.const (Go.Value.int Go.IntKind.i64 0)) 32, type := 4, pos := "outright.go:35", after := #[{ on := 0, ground := Go.Ground.data }], guard := none } : Oper)) (v := ?vw2) rfl (by kernel_rfl) (by kernel_rfl) (by kernel_rfl) (fun _ _ _ h => h) (Or.inl ⟨by rfl, ?hz2⟩) (by assumption) ?rs2
      case hz2 => (intro wz hSw; (try have hq1 := hSw.tail.cell); (try have hq2 := hSw.tail.tail.cell); (try have hq3 := hSw.cell); (try have hq4 := hSw.tail.row); (try have hq5 := hSw.tail.tail.row); (try have hq6 := hSw.row); (try have hq7 := hSw.tail.tail.tail.row); (try clear hSw); go_simp; all_goals with_reducible rfl)
      try simp only [Act.put, List.setIfInBounds_toArray, List.set_cons_zero, List.set_cons_succ]
      refine wpAnyH_take (i := 2) (oi := ({ dst := some 38, op := Go.Op.move (Go.Operand.tmp 37), type := 4, pos := "outright.go:35", after := #[{ on := 1, ground := Go.Ground.data }], guard := none } : Oper)) (v := ?vw3) rfl (by kernel_rfl) (by kernel_rfl) (by kernel_rfl) (fun _ _ _ h => h) (Or.inl ⟨by rfl, ?hz3⟩) (by assumption) ?rs3
      case hz3 => (intro wz hSw; (try have hq1 := hSw.tail.cell); (try have hq2 := hSw.tail.tail.cell); (try have hq3 := hSw.cell); (try have hq4 := hSw.tail.row); (try have hq5 := hSw.tail.tail.row); (try have hq6 := hSw.row); (try have hq7 := hSw.tail.tail.tail.row); (try clear hSw); go_simp; all_goals with_reducible rfl)
      try simp only [Act.put, List.setIfInBounds_toArray, List.set_cons_zero, List.set_cons_succ]
      refine wpAnyH_take (i := 3) (oi := ({ dst := some 39, op := Go.Op.move (Go.Operand.tmp 3), type := 9, pos := "outright.go:35", after := #[{ on := 2, ground := Go.Ground.guard }], guard := some (2, false) } : Oper)) (v := ?vw4) rfl (by kernel_rfl) (by kernel_rfl) (by kernel_rfl) (fun _ _ _ h => h) (Or.inl ⟨by rfl, ?hz4⟩) (by assumption) ?rs4
      case hz4 => (intro wz hSw; (try have hq1 := hSw.tail.cell); (try have hq2 := hSw.tail.tail.cell); (try have hq3 := hSw.cell); (try have hq4 := hSw.tail.row); (try have hq5 := hSw.tail.tail.row); (try have hq6 := hSw.row); (try have hq7 := hSw.tail.tail.tail.row); (try clear hSw); go_simp; all_goals with_reducible rfl)
      try simp only [Act.put, List.setIfInBounds_toArray, List.set_cons_zero, List.set_cons_succ]
      refine wpAnyH_take (i := 4) (oi := ({ dst := some 40, op := Go.Op.call { callee := Go.Callee.builtin Go.Builtin.len, args := #[Go.Operand.tmp 39], argTypes := #[9] }, type := 3, pos := "outright.go:35", after := #[{ on := 3, ground := Go.Ground.data }, { on := 2, ground := Go.Ground.guard }], guard := some (2, false) } : Oper)) (v := ?vw5) rfl (by kernel_rfl) (by kernel_rfl) (by kernel_rfl) (fun _ _ _ h => h) (Or.inl ⟨by rfl, ?hz5⟩) (by assumption) ?rs5
      case hz5 => (intro wz hSw; (try have hq1 := hSw.tail.cell); (try have hq2 := hSw.tail.tail.cell); (try have hq3 := hSw.cell); (try have hq4 := hSw.tail.row); (try have hq5 := hSw.tail.tail.row); (try have hq6 := hSw.row); (try have hq7 := hSw.tail.tail.tail.row); (try clear hSw); go_simp; all_goals with_reducible rfl)
      try simp only [Act.put, List.setIfInBounds_toArray, List.set_cons_zero, List.set_cons_succ]
      refine wpAnyH_take (i := 5) (oi := ({ dst := some 41, op := Go.Op.binOp Go.BinOp.lss 3 (Go.Operand.tmp 40) (Go.Operand.const (Go.Value.int Go.IntKind.i64 2)) 3, type := 4, pos := "outright.go:35", after := #[{ on := 4, ground := Go.Ground.data }, { on := 2, ground := Go.Ground.guard }], guard := some (2, false) } : Oper)) (v := ?vw6) rfl (by kernel_rfl) (by kernel_rfl) (by kernel_rfl) (fun _ _ _ h => h) (Or.inl ⟨by rfl, ?hz6⟩) (by assumption) ?rs6
      case hz6 => (intro wz hSw; (try have hq1 := hSw.tail.cell); (try have hq2 := hSw.tail.tail.cell); (try have hq3 := hSw.cell); (try have hq4 := hSw.tail.row); (try have hq5 := hSw.tail.tail.row); (try have hq6 := hSw.row); (try have hq7 := hSw.tail.tail.tail.row); (try clear hSw); go_simp; all_goals with_reducible rfl)
      try simp only [Act.put, List.setIfInBounds_toArray, List.set_cons_zero, List.set_cons_succ]
      refine wpAnyH_take (i := 6) (oi := ({ dst := some 42, op := Go.Op.pick (Go.Operand.tmp 38) (Go.Operand.const (Go.Value.bool true)) (Go.Operand.tmp 41), type := 4, pos := "outright.go:35", after := #[{ on := 2, ground := Go.Ground.data }, { on := 5, ground := Go.Ground.data }], guard := none } : Oper)) (v := ?vw7) rfl (by kernel_rfl) (by kernel_rfl) (by kernel_rfl) (fun _ _ _ h => h) (Or.inl ⟨by rfl, ?hz7⟩) (by assumption) ?rs7
      case hz7 => (intro wz hSw; (try have hq1 := hSw.tail.cell); (try have hq2 := hSw.tail.tail.cell); (try have hq3 := hSw.cell); (try have hq4 := hSw.tail.row); (try have hq5 := hSw.tail.tail.row); (try have hq6 := hSw.row); (try have hq7 := hSw.tail.tail.tail.row); (try clear hSw); go_simp; all_goals with_reducible rfl)
      try simp only [Act.put, List.setIfInBounds_toArray, List.set_cons_zero, List.set_cons_succ]
      refine wpAnyH_take (i := 7) (oi := ({ dst := some 43, op := Go.Op.move (Go.Operand.tmp 42), type := 4, pos := "outright.go:35", after := #[{ on := 6, ground := Go.Ground.data }, { on := 2, ground := Go.Ground.chain }], guard := none } : Oper)) (v := ?vw8) rfl (by kernel_rfl) (by kernel_rfl) (by kernel_rfl) (fun _ _ _ h => h) (Or.inl ⟨by rfl, ?hz8⟩) (by assumption) ?rs8
      case hz8 => (intro wz hSw; (try have hq1 := hSw.tail.cell); (try have hq2 := hSw.tail.tail.cell); (try have hq3 := hSw.cell); (try have hq4 := hSw.tail.row); (try have hq5 := hSw.tail.tail.row); (try have hq6 := hSw.row); (try have hq7 := hSw.tail.tail.tail.row); (try clear hSw); go_simp; all_goals with_reducible rfl)
      try simp only [Act.put, List.setIfInBounds_toArray, List.set_cons_zero, List.set_cons_succ]
      refine wpAnyH_take (i := 8) (oi := ({ dst := some 44, op := Go.Op.move (Go.Operand.tmp 3), type := 9, pos := "outright.go:35", after := #[{ on := 7, ground := Go.Ground.guard }], guard := some (7, false) } : Oper)) (v := ?vw9) rfl (by kernel_rfl) (by kernel_rfl) (by kernel_rfl) (fun _ _ _ h => h) (Or.inl ⟨by rfl, ?hz9⟩) (by assumption) ?rs9
      case hz9 => (intro wz hSw; (try have hq1 := hSw.tail.cell); (try have hq2 := hSw.tail.tail.cell); (try have hq3 := hSw.cell); (try have hq4 := hSw.tail.row); (try have hq5 := hSw.tail.tail.row); (try have hq6 := hSw.row); (try have hq7 := hSw.tail.tail.tail.row); (try clear hSw); go_simp; all_goals with_reducible rfl)
      try simp only [Act.put, List.setIfInBounds_toArray, List.set_cons_zero, List.set_cons_succ]
      refine wpAnyH_take (i := 9) (oi := ({ dst := some 45, op := Go.Op.index 9 (Go.Operand.tmp 44) (Go.Operand.const (Go.Value.int Go.IntKind.i64 0)), type := 5, pos := "outright.go:35", after := #[{ on := 8, ground := Go.Ground.data }, { on := 7, ground := Go.Ground.guard }], guard := some (7, false) } : Oper)) (v := ?vw10) rfl (by kernel_rfl) (by kernel_rfl) (by kernel_rfl) (fun _ _ _ h => h) (Or.inl ⟨by rfl, ?hz10⟩) (by assumption) ?rs10
      case hz10 => (intro wz hSw; (try have hq1 := hSw.tail.cell); (try have hq2 := hSw.tail.tail.cell); (try have hq3 := hSw.cell); (try have hq4 := hSw.tail.row); (try have hq5 := hSw.tail.tail.row); (try have hq6 := hSw.row); (try have hq7 := hSw.tail.tail.tail.row); (try clear hSw); go_simp; all_goals with_reducible rfl)
      try simp only [Act.put, List.setIfInBounds_toArray, List.set_cons_zero, List.set_cons_succ]
      refine wpAnyH_take (i := 10) (oi := ({ dst := some 46, op := Go.Op.binOp Go.BinOp.quo 5 (Go.Operand.tmp 45) (Go.Operand.const (Go.Value.int Go.IntKind.u8 16)) 5, type := 5, pos := "outright.go:35", after := #[{ on := 9, ground := Go.Ground.data }, { on := 7, ground := Go.Ground.guard }], guard := some (7, false) } : Oper)) (v := ?vw11) rfl (by kernel_rfl) (by kernel_rfl) (by kernel_rfl) (fun _ _ _ h => h) (Or.inl ⟨by rfl, ?hz11⟩) (by assumption) ?rs11
      case hz11 => (intro wz hSw; (try have hq1 := hSw.tail.cell); (try have hq2 := hSw.tail.tail.cell); (try have hq3 := hSw.cell); (try have hq4 := hSw.tail.row); (try have hq5 := hSw.tail.tail.row); (try have hq6 := hSw.row); (try have hq7 := hSw.tail.tail.tail.row); (try clear hSw); go_simp; all_goals with_reducible rfl)
      try simp only [Act.put, List.setIfInBounds_toArray, List.set_cons_zero, List.set_cons_succ]
      refine wpAnyH_take (i := 11) (oi := ({ dst := some 47, op := Go.Op.fieldAddr 27 (Go.Operand.tmp 1) 0, type := 0, pos := "outright.go:35", after := #[{ on := 7, ground := Go.Ground.guard }], guard := some (7, false) } : Oper)) (v := ?vw12) rfl (by kernel_rfl) (by kernel_rfl) (by kernel_rfl) (fun _ _ _ h => h) (Or.inl ⟨by rfl, ?hz12⟩) (by assumption) ?rs12
      case hz12 => (intro wz hSw; (try have hq1 := hSw.tail.cell); (try have hq2 := hSw.tail.tail.cell); (try have hq3 := hSw.cell); (try have hq4 := hSw.tail.row); (try have hq5 := hSw.tail.tail.row); (try have hq6 := hSw.row); (try have hq7 := hSw.tail.tail.tail.row); (try clear hSw); go_simp; all_goals with_reducible rfl)
      try simp only [Act.put, List.setIfInBounds_toArray, List.set_cons_zero, List.set_cons_succ]
      refine wpAnyH_take (i := 12) (oi := ({ dst := some 48, op := Go.Op.load 5 (Go.Operand.tmp 47), type := 5, pos := "outright.go:35", after := #[{ on := 11, ground := Go.Ground.data }, { on := 7, ground := Go.Ground.guard }], guard := some (7, false) } : Oper)) (v := ?vw13) rfl (by kernel_rfl) (by kernel_rfl) (by kernel_rfl) (fun _ _ _ h => h) (Or.inl ⟨by rfl, ?hz13⟩) (by assumption) ?rs13
      case hz13 => (intro wz hSw; (try have hq1 := hSw.tail.cell); (try have hq2 := hSw.tail.tail.cell); (try have hq3 := hSw.cell); (try have hq4 := hSw.tail.row); (try have hq5 := hSw.tail.tail.row); (try have hq6 := hSw.row); (try have hq7 := hSw.tail.tail.tail.row); (try clear hSw); go_simp; all_goals with_reducible rfl)
      try simp only [Act.put, List.setIfInBounds_toArray, List.set_cons_zero, List.set_cons_succ]
      refine wpAnyH_take (i := 13) (oi := ({ dst := some 49, op := Go.Op.binOp Go.BinOp.neq 5 (Go.Operand.tmp 46) (Go.Operand.tmp 48) 5, type := 4, pos := "outright.go:35", after := #[{ on := 10, ground := Go.Ground.data }, { on := 12, ground := Go.Ground.data }, { on := 7, ground := Go.Ground.guard }], guard := some (7, false) } : Oper)) (v := ?vw14) rfl (by kernel_rfl) (by kernel_rfl) (by kernel_rfl) (fun _ _ _ h => h) (Or.inl ⟨by rfl, ?hz14⟩) (by assumption) ?rs14
      case hz14 => (intro wz hSw; (try have hq1 := hSw.tail.cell); (try have hq2 := hSw.tail.tail.cell); (try have hq3 := hSw.cell); (try have hq4 := hSw.tail.row); (try have hq5 := hSw.tail.tail.row); (try have hq6 := hSw.row); (try have hq7 := hSw.tail.tail.tail.row); (try clear hSw); go_simp; all_goals with_reducible rfl)
      try simp only [Act.put, List.setIfInBounds_toArray, List.set_cons_zero, List.set_cons_succ]
      refine wpAnyH_take (i := 14) (oi := ({ dst := some 50, op := Go.Op.pick (Go.Operand.tmp 43) (Go.Operand.const (Go.Value.bool true)) (Go.Operand.tmp 49), type := 4, pos := "outright.go:35", after := #[{ on := 7, ground := Go.Ground.data }, { on := 13, ground := Go.Ground.data }], guard := none } : Oper)) (v := ?vw15) rfl (by kernel_rfl) (by kernel_rfl) (by kernel_rfl) (fun _ _ _ h => h) (Or.inl ⟨by rfl, ?hz15⟩) (by assumption) ?rs15
      case hz15 => (intro wz hSw; (try have hq1 := hSw.tail.cell); (try have hq2 := hSw.tail.tail.cell); (try have hq3 := hSw.cell); (try have hq4 := hSw.tail.row); (try have hq5 := hSw.tail.tail.row); (try have hq6 := hSw.row); (try have hq7 := hSw.tail.tail.tail.row); (try clear hSw); go_simp; all_goals with_reducible rfl)
      try simp only [Act.put, List.setIfInBounds_toArray, List.set_cons_zero, List.set_cons_succ]
      refine wpAnyH_take (i := 15) (oi := ({ dst := some 51, op := Go.Op.move (Go.Operand.tmp 50), type := 4, pos := "outright.go:35", after := #[{ on := 14, ground := Go.Ground.data }, { on := 7, ground := Go.Ground.chain }], guard := none } : Oper)) (v := ?vw16) rfl (by kernel_rfl) (by kernel_rfl) (by kernel_rfl) (fun _ _ _ h => h) (Or.inl ⟨by rfl, ?hz16⟩) (by assumption) ?rs16
      case hz16 => (intro wz hSw; (try have hq1 := hSw.tail.cell); (try have hq2 := hSw.tail.tail.cell); (try have hq3 := hSw.cell); (try have hq4 := hSw.tail.row); (try have hq5 := hSw.tail.tail.row); (try have hq6 := hSw.row); (try have hq7 := hSw.tail.tail.tail.row); (try clear hSw); go_simp; all_goals with_reducible rfl)
      try simp only [Act.put, List.setIfInBounds_toArray, List.set_cons_zero, List.set_cons_succ]
      refine wpAnyH_take (i := 16) (oi := ({ dst := some 52, op := Go.Op.load 27 (Go.Operand.tmp 1), type := 27, pos := "outright.go:35", after := #[{ on := 15, ground := Go.Ground.guard }], guard := some (15, false) } : Oper)) (v := ?vw17) rfl (by kernel_rfl) (by kernel_rfl) (by kernel_rfl) (fun _ _ _ h => h) (Or.inl ⟨by rfl, ?hz17⟩) (by assumption) ?rs17
      case hz17 => (intro wz hSw; (try have hq1 := hSw.tail.cell); (try have hq2 := hSw.tail.tail.cell); (try have hq3 := hSw.cell); (try have hq4 := hSw.tail.row); (try have hq5 := hSw.tail.tail.row); (try have hq6 := hSw.row); (try have hq7 := hSw.tail.tail.tail.row); (try clear hSw); go_simp; all_goals with_reducible rfl)
      try simp only [Act.put, List.setIfInBounds_toArray, List.set_cons_zero, List.set_cons_succ]
      refine wpAnyH_take (i := 18) (oi := ({ dst := some 54, op := Go.Op.move (Go.Operand.tmp 3), type := 9, pos := "outright.go:35", after := #[{ on := 15, ground := Go.Ground.guard }], guard := some (15, false) } : Oper)) (v := ?vw18) rfl (by kernel_rfl) (by kernel_rfl) (by kernel_rfl) (fun _ _ _ h => h) (Or.inl ⟨by rfl, ?hz18⟩) (by assumption) ?rs18
      case hz18 => (intro wz hSw; (try have hq1 := hSw.tail.cell); (try have hq2 := hSw.tail.tail.cell); (try have hq3 := hSw.cell); (try have hq4 := hSw.tail.row); (try have hq5 := hSw.tail.tail.row); (try have hq6 := hSw.row); (try have hq7 := hSw.tail.tail.tail.row); (try clear hSw); go_simp; all_goals with_reducible rfl)
      try simp only [Act.put, List.setIfInBounds_toArray, List.set_cons_zero, List.set_cons_succ]
      refine wpAnyH_take (i := 19) (oi := ({ dst := some 55, op := Go.Op.call { callee := Go.Callee.builtin Go.Builtin.len, args := #[Go.Operand.tmp 54], argTypes := #[9] }, type := 3, pos := "outright.go:35", after := #[{ on := 18, ground := Go.Ground.data }, { on := 15, ground := Go.Ground.guard }], guard := some (15, false) } : Oper)) (v := ?vw19) rfl (by kernel_rfl) (by kernel_rfl) (by kernel_rfl) (fun _ _ _ h => h) (Or.inl ⟨by rfl, ?hz19⟩) (by assumption) ?rs19
      case hz19 => (intro wz hSw; (try have hq1 := hSw.tail.cell); (try have hq2 := hSw.tail.tail.cell); (try have hq3 := hSw.cell); (try have hq4 := hSw.tail.row); (try have hq5 := hSw.tail.tail.row); (try have hq6 := hSw.row); (try have hq7 := hSw.tail.tail.tail.row); (try clear hSw); go_simp; all_goals with_reducible rfl)
      try simp only [Act.put, List.setIfInBounds_toArray, List.set_cons_zero, List.set_cons_succ]
      refine wpAnyH_ready (rs := [17]) (by kernel_rfl) (by simp) ?_
      refine (AllReadyH.cons (o := ({ dst := some 53, op := Go.Op.call { callee := Go.Callee.value (Go.Operand.func 10), args := #[Go.Operand.tmp 52], argTypes := #[27] }, type := 3, pos := "outright.go:35", after := #[{ on := 16, ground := Go.Ground.data }, { on := 15, ground := Go.Ground.chain }, { on := 15, ground := Go.Ground.guard }], guard := some (15, false) } : Oper)) rfl (fun K hK => ?_) AllReadyH.nil)
      go_simp
      (go_at_call 10; refine (size_eq p A n c xs (S.length : Int) _ (HG.out.below hHeld.below) (HS.out.below hHeld.below) HF.out Z1.out).mono ?_; rintro e w6 ⟨rfl, hb6⟩)
      refine hK.out _ _ (by first | exact hHeld.more hb6 | exact hHeld | exact ⟨_, hK9⟩ | exact below_more hHeld hb6) (fun hHeld1 => ?_)
      clear hHeld; have hHeld := hHeld1; clear hHeld1 hK K
      try simp only [Act.put, List.setIfInBounds_toArray, List.set_cons_zero, List.set_cons_succ]
      refine wpAnyH_take (i := 20) (oi := ({ dst := some 56, op := Go.Op.binOp Go.BinOp.neq 3 (Go.Operand.tmp 53) (Go.Operand.tmp 55) 3, type := 4, pos := "outright.go:35", after := #[{ on := 17, ground := Go.Ground.data }, { on := 19, ground := Go.Ground.data }, { on := 15, ground := Go.Ground.guard }], guard := some (15, false) } : Oper)) (v := ?vw20) rfl (by kernel_rfl) (by kernel_rfl) (by kernel_rfl) (fun _ _ _ h => h) (Or.inl ⟨by rfl, ?hz20⟩) (by assumption) ?rs20
      case hz20 => (intro wz hSw; (try have hq1 := hSw.tail.cell); (try have hq2 := hSw.tail.tail.cell); (try have hq3 := hSw.cell); (try have hq4 := hSw.tail.row); (try have hq5 := hSw.tail.tail.row); (try have hq6 := hSw.row); (try have hq7 := hSw.tail.tail.tail.row); (try clear hSw); go_simp; all_goals with_reducible rfl)
      try simp only [Act.put, List.setIfInBounds_toArray, List.set_cons_zero, List.set_cons_succ]
      refine wpAnyH_take (i := 21) (oi := ({ dst := some 57, op := Go.Op.pick (Go.Operand.tmp 51) (Go.Operand.const (Go.Value.bool true)) (Go.Operand.tmp 56), type := 4, pos := "outright.go:35", after := #[{ on := 15, ground := Go.Ground.data }, { on := 20, ground := Go.Ground.data }], guard := none } : Oper)) (v := ?vw21) rfl (by kernel_rfl) (by kernel_rfl) (by kernel_rfl) (fun _ _ _ h => h) (Or.inl ⟨by rfl, ?hz21⟩) (by assumption) ?rs21
      case hz21 => (intro wz hSw; (try have hq1 := hSw.tail.cell); (try have hq2 := hSw.tail.tail.cell); (try have hq3 := hSw.cell); (try have hq4 := hSw.tail.row); (try have hq5 := hSw.tail.tail.row); (try have hq6 := hSw.row); (try have hq7 := hSw.tail.tail.tail.row); (try clear hSw); go_simp; all_goals with_reducible rfl)
      try simp only [Act.put, List.setIfInBounds_toArray, List.set_cons_zero, List.set_cons_succ]
      refine wpAnyH_done (by kernel_rfl) ?_ _
      have a1r := hHeld.row; have a1f := hHeld.free; have a1c := hHeld.cell; have a1l := hHeld.lt; have a1z := hHeld.froz
      have had := K_had.out
      have hT1 := K_hT1.out
      have hE1 := K_hE1.out
      have hw1 := K_hw1.out
      have hw2 := K_hw2.out
      have hw3 := K_hw3.out
      have hHS := K_hHS.out
      have hl3 := K_hl3.out
      have hTl := K_hTl.out
      clear hl2 hg hbx hq hwq
      go_wp2_with fail
      refine (rd_eq T v z 0 _ hTl hrd.out).mono ?_
      rintro e w7 ⟨rfl, rfl⟩
      go_wp2_with fail
      refine (sizeW_eq v z _ h0 h1 HSZ.out).mono ?_
      rintro e w7 ⟨rfl, rfl⟩
      go_wp2_with fail
      refine (awake_any _ (HG.out.below hHeld.below)).mono ?_
      rintro e w8 ⟨rfl, hb8⟩
      go_wp2_with fail
      go_ret
      exact ⟨rfl, below_more hHeld.below hb8⟩
    · have E1 : Hid (encR p xs = ([], 4)) := by show _ = _; unfold encR; rw [hv, if_neg h0]
      have Z1 : Hid (sizR p xs = 0) := by show _ = _; unfold sizR; rw [hv, if_neg h0]
      have h0' : v < 0 := by omega
      have V1 := Lib.hid hv
      clear hv hS h0
      go_wp2_with fail
      refine (encode_eq p A n c xs [] 4 _ (HG.out.below hK1.below) (HS.out.below hK1.below) HZ.out HF.out E1.out).mono ?_
      rintro e w3 ⟨rfl, hb3⟩
      have hK2 := hK1.more hb3
      clear hb3 hK1 a1r a1f a1c a1l a1z
      have a1r := hK2.row; have a1f := hK2.free; have a1c := hK2.cell; have a1l := hK2.lt; have a1z := hK2.froz
      go_wp2_with fail
      refine (rest_eq p A n c xs v _ (HG.out.below hK2.below) (HS.out.below hK2.below) HF.out V1.out).mono ?_
      rintro e w4 ⟨rfl, hb4⟩
      have hK3 := hK2.more hb4
      clear hb4 hK2 a1r a1f a1c a1l a1z
      have a1r := hK3.row; have a1f := hK3.free; have a1c := hK3.cell; have a1l := hK3.lt; have a1z := hK3.froz
      go_wp2_with fail
      refine (size_eq p A n c xs 0 _ (HG.out.below hK3.below) (HS.out.below hK3.below) HF.out Z1.out).mono ?_
      rintro e w5 ⟨rfl, hb5⟩
      have hK4 := hK3.more hb5
      clear hb5 hK3 a1r a1f a1c a1l a1z
      go_wp2_with fail
      refine (awake_any _ (HG.out.below hK4.below)).mono ?_
      rintro e w6 ⟨rfl, hb6⟩
      go_wp2_with fail
      go_ret
      exact ⟨rfl, below_more hK4.below hb6⟩
end lawWriteSizes
end Go.Proofs.YtphdooaihbmnlaaDoor
