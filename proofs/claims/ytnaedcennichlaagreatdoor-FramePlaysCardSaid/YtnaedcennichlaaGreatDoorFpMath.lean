/-
  The document's own guess: of a packet's bytes it is the packet.
-/
import Derived.Test.YtnaedcennichlaaGreatDoorFpCon
import Derived.Test.YtnaedcennichlaaGreatDoorFpSubs
set_option linter.unusedSimpArgs false
set_option linter.unusedVariables false
namespace Go.Proofs.YtnaedcennichlaaGreatDoor
open Go.RowKit
set_option maxRecDepth 100000
theorem gd_field (x t : List UInt8) (h : x.length ≤ 65535) : gdV (fieldL x ++ t) = x ∧ gdL (fieldL x ++ t) = t := by
  unfold gdV gdL
  rw [getD_field x t h]
  refine ⟨rfl, ?_⟩
  show (fieldL x ++ t).drop ((x.length : Int) + 2).toNat = t
  rw [show ((x.length : Int) + 2).toNat = (fieldL x).length by rw [fieldL_len]; omega, List.drop_left]
theorem gw_word (n : Int) (t : List UInt8) (h0 : 0 ≤ n) (h1 : n ≤ 65535) : woV (wordL n ++ t) = n ∧ gwL (wordL n ++ t) = t := ⟨(wo_word n t false h0 h1).1, rfl⟩
theorem gb_byte (n : Int) (t : List UInt8) (h0 : 0 ≤ n) (h1 : n < 256) : byV (toB n :: t) = n := toB_toNat n h0 h1
theorem bit_eq (c k : Int) : (c / k % 2 == 1) = bitB c k := by
  unfold bitB
  by_cases h : c / k % 2 = 1
  · rw [h]; rfl
  · rw [decide_eq_false h, beq_eq_false_iff_ne]; exact h
theorem bit_128 (c : Int) (h0 : 0 ≤ c) (h1 : c < 256) : (c / 128 == 1) = bitB c 128 := by
  rw [← bit_eq]
  have : c / 128 % 2 = c / 128 := by omega
  rw [this]
section
variable {p : Pk} {xs : List (List UInt8 × Int)}
theorem gcon_back (h : Ok p xs) (np : Num p xs) (e : p.ty = 1) : gCon (conX p) = p := by
  have cp := con_of (h.con e)
  have wq := cp.wq np.wq.1
  have lp : p.level = 4 := by have := h.con e; simp only [conR, Bool.and_eq_true, beq_iff_eq] at this; exact this.1
  obtain ⟨b1, b2, b4, b8, b32, b64, b128⟩ := cbits p np.wq.1 wq
  have bc := cfl_bd np.wq.1 wq
  have zp := h.zero
  rw [show takeL p = conL p by simp [takeL, e]] at zp
  have e1 : gdL (conX p) = toB 4 :: (toB (cflN p) :: (wordL p.keep ++ (fieldL p.client ++ (willL p ++ (userL p ++ passL p))))) := (gd_field nameL _ (by decide)).2
  have hg : gCon (conX p) = conP 4 p.clean p.keep p.client p.hasWill p.wt p.wl p.wq p.wr p.hasUser p.hasPass p.user p.pass := by
    unfold gCon gcL gcP
    rw [e1]
    simp only [List.tail_cons]
    rw [gb_byte (cflN p) _ bc.1 bc.2, gb_byte 4 _ (by omega) (by omega), (gw_word p.keep _ np.keep.1 np.keep.2).1, (gw_word p.keep _ np.keep.1 np.keep.2).2,
      (gd_field p.client _ (val_len cp.client)).1, (gd_field p.client _ (val_len cp.client)).2]
    unfold gcB
    rw [bit_eq, bit_eq, bit_eq, bit_eq, bit_128 _ bc.1 bc.2, b2, b4, b8, b32, b64, b128]
    have hw : ∀ P : Pk, gcW p.hasWill (willL p ++ (userL p ++ passL p)) P = (if p.hasWill then (P.s_wt p.wt).s_wl p.wl else P, userL p ++ passL p) := by
      intro P
      unfold gcW willL
      cases hh : p.hasWill with
      | true =>
        rw [if_pos rfl, if_pos rfl, if_pos rfl, List.append_assoc, (gd_field _ _ (val_len (cp.wt hh))).1, (gd_field _ _ (val_len (cp.wt hh))).2, (gd_field _ _ (cp.wl hh)).1, (gd_field _ _ (cp.wl hh)).2]
      | false => rw [if_neg (by simp), if_neg (by simp), if_neg (by simp)]; rfl
    rw [hw]
    have hu : ∀ P : Pk, gcU p.hasUser (userL p ++ passL p) P = (if p.hasUser then P.s_user p.user else P, passL p) := by
      intro P
      unfold gcU userL
      cases hh : p.hasUser with
      | true => rw [if_pos rfl, if_pos rfl, if_pos rfl, (gd_field _ _ (val_len (cp.user hh))).1, (gd_field _ _ (val_len (cp.user hh))).2]
      | false => rw [if_neg (by simp), if_neg (by simp), if_neg (by simp)]; rfl
    dsimp only
    rw [hu]
    have hs : ∀ P : Pk, gcS p.hasPass (passL p) P = (if p.hasPass then P.s_pass p.pass else P) := by
      intro P
      unfold gcS passL
      cases hh : p.hasPass with
      | true => rw [if_pos rfl, if_pos rfl, if_pos rfl, show fieldL p.pass = fieldL p.pass ++ [] by simp, (gd_field _ _ (cp.pass hh)).1]
      | false => rw [if_neg (by simp), if_neg (by simp)]
    dsimp only
    rw [hs]
    cases k1 : p.hasWill <;> cases k2 : p.hasUser <;> cases k3 : p.hasPass
    · obtain ⟨j1, j2, j3, j4⟩ := cp.will k1
      rw [j1, j2, j3, j4]
      try rw [cp.user0 k2]
      try rw [cp.pass0 k3]
      rfl
    · obtain ⟨j1, j2, j3, j4⟩ := cp.will k1
      rw [j1, j2, j3, j4]
      try rw [cp.user0 k2]
      try rw [cp.pass0 k3]
      rfl
    · obtain ⟨j1, j2, j3, j4⟩ := cp.will k1
      rw [j1, j2, j3, j4]
      try rw [cp.user0 k2]
      try rw [cp.pass0 k3]
      rfl
    · obtain ⟨j1, j2, j3, j4⟩ := cp.will k1
      rw [j1, j2, j3, j4]
      try rw [cp.user0 k2]
      try rw [cp.pass0 k3]
      rfl
    · try rw [cp.user0 k2]
      try rw [cp.pass0 k3]
      rfl
    · try rw [cp.user0 k2]
      try rw [cp.pass0 k3]
      rfl
    · try rw [cp.user0 k2]
      try rw [cp.pass0 k3]
      rfl
    · try rw [cp.user0 k2]
      try rw [cp.pass0 k3]
      rfl
  rw [hg]
  exact con_inj (p := conP 4 p.clean p.keep p.client p.hasWill p.wt p.wl p.wq p.wr p.hasUser p.hasPass p.user p.pass) (q := p) (by rfl) zp (by rw [e]; rfl) (by rw [lp]; rfl) rfl rfl rfl rfl rfl rfl rfl rfl rfl rfl rfl rfl
theorem gs_back (t : Int) : ∀ (ys : List (List UInt8 × Int)), (∀ x ∈ ys, valB x.1 = true ∧ 0 ≤ x.2 ∧ x.2 ≤ 255 ∧ (t ≠ 8 → x.2 = 0)) → guS t (subX t ys) = ys
  | [], _ => guS_nil t
  | x :: r, h => by
    obtain ⟨h1, h2, h3, h4⟩ := h x (by simp)
    have ih := gs_back t r (fun y hy => h y (by simp [hy]))
    have hl := val_len h1
    have hS : subX t (x :: r) = fieldL x.1 ++ ((if t = 8 then [toB x.2] else []) ++ subX t r) := List.append_assoc _ _ _
    have hne : subX t (x :: r) ≠ [] := by rw [hS]; simp [fieldL]
    obtain ⟨k1, k2⟩ := gd_field x.1 ((if t = 8 then [toB x.2] else []) ++ subX t r) hl
    rw [← hS] at k1 k2
    have hL : guL t (subX t (x :: r)) = subX t r ∧ guX t (subX t (x :: r)) = x := by
      unfold guL guX
      rw [k1, k2]
      by_cases ht : t = 8
      · subst ht
        simp only [if_true, List.singleton_append, List.tail_cons]
        rw [gb_byte x.2 _ h2 (by omega)]
        first | exact ⟨rfl, rfl⟩ | exact ⟨trivial, rfl⟩
      · rw [if_neg ht, if_neg ht, if_neg ht, ← h4 ht]
        exact ⟨rfl, rfl⟩
    have hlt : (subX t r).length < (subX t (x :: r)).length := by
      rw [hS, List.length_append, List.length_append, fieldL_len]
      omega
    rw [guS_go t _ hne, hL.1, hL.2, if_pos hlt, ih]
/-- The document's own guess. -/
def gP (c : Int) (l : List UInt8) : Pk × List (List UInt8 × Int) :=
  if c / 16 = 1 then (gCon l, []) else if c / 16 = 2 then (((zPk.s_ty 2).s_present (byV l == 1)).s_code (byV l.tail), [])
  else if c / 16 = 3 then (if 0 < c / 2 % 4 then (((gPub c).s_topic (gdV l)).s_id (woV (gdL l))).s_load (gwL (gdL l)) else ((gPub c).s_topic (gdV l)).s_load (gdL l), [])
  else if c / 16 = 8 ∨ c / 16 = 10 then ((zPk.s_ty (c / 16)).s_id (woV l), guS (c / 16) (gwL l)) else if c / 16 = 9 then (((zPk.s_ty 9).s_id (woV l)).s_codes (gwL l), [])
  else if c / 16 = 12 ∨ c / 16 = 13 ∨ c / 16 = 14 then (zPk.s_ty (c / 16), []) else ((zPk.s_ty (c / 16)).s_id (woV l), [])
theorem guess_any (c : Int) (l : List UInt8) (w : World) (h0 : 0 ≤ c) (h1 : c ≤ 255) (hl : l.length ≤ 1000000) (ha : 1 ≤ c / 16) (hb : c / 16 ≤ 14) :
    Calls Tryz.prog 28 #[.int .u8 c, .string ⟨l.toArray⟩] w fun e w' => GUP w (gP c l).1 (gP c l).2 e w' := by
  unfold gP
  by_cases e1 : c / 16 = 1
  · rw [if_pos e1]; exact guess_1 c l w h0 h1 hl e1
  by_cases e2 : c / 16 = 2
  · rw [if_neg e1, if_pos e2]; exact guess_2 c l w h0 h1 hl e2
  by_cases e3 : c / 16 = 3
  · rw [if_neg e1, if_neg e2, if_pos e3]; exact guess_3 c l w h0 h1 hl e3
  by_cases e8 : c / 16 = 8
  · rw [if_neg e1, if_neg e2, if_neg e3, if_pos (Or.inl e8), e8]; exact guess_8 c l w h0 h1 hl e8
  by_cases e10 : c / 16 = 10
  · rw [if_neg e1, if_neg e2, if_neg e3, if_pos (Or.inr e10), e10]; exact guess_10 c l w h0 h1 hl e10
  by_cases e9 : c / 16 = 9
  · rw [if_neg e1, if_neg e2, if_neg e3, if_neg (by omega), if_pos e9]; exact guess_9 c l w h0 h1 hl e9
  by_cases e12 : c / 16 = 12 ∨ c / 16 = 13 ∨ c / 16 = 14
  · rw [if_neg e1, if_neg e2, if_neg e3, if_neg (by omega), if_neg e9, if_pos e12]; exact guess_no c l w h0 h1 e12
  · rw [if_neg e1, if_neg e2, if_neg e3, if_neg (by omega), if_neg e9, if_neg e12]; exact guess_id c l w h0 h1 hl (by omega)
theorem gP_back (h : Ok p xs) (np : Num p xs) : gP (p.ty * 16 + flagsN p) (bodyL p xs) = (p, xs) := by
  obtain ⟨c0, c1, hc, hf, _⟩ := head_bd h np
  have hn := h.none
  have zp := h.zero
  unfold gP
  rw [hc]
  rcases h.ty with e | e | e | e | e | e | e | e | e | e | e | e | e | e
  · have hb : bodyL p xs = conX p := by unfold bodyL; rw [if_pos e]
    rw [hb, if_pos e, nil_of hn (by omega) (by omega), gcon_back h np e]
  · have hb : bodyL p xs = [toB (yesI p.present 1), toB p.code] := by unfold bodyL; rw [e]; rfl
    have hcd := np.code
    have hpr : (yesI p.present 1 == 1) = p.present := by cases p.present <;> rfl
    have hb1 : 0 ≤ yesI p.present 1 ∧ yesI p.present 1 ≤ 1 := by unfold yesI; split <;> omega
    rw [show takeL p = ackL p by simp [takeL, e]] at zp
    rw [hb, if_neg (by omega), if_pos e, nil_of hn (by omega) (by omega), List.tail_cons, gb_byte _ _ hb1.1 (by omega), gb_byte _ _ hcd.1 (by omega), hpr]
    rw [ack_inj (p := ((zPk.s_ty 2).s_present p.present).s_code p.code) (q := p) (by rfl) zp (by rw [e]; rfl) rfl rfl]
  · have hb : bodyL p xs = pubX p := by unfold bodyL; rw [e]; rfl
    obtain ⟨hq, hm⟩ := pub_qos h e
    obtain ⟨b8, b2, b1⟩ := pbits p e np.qos.1 hq
    rw [show takeL p = pubL p by simp [takeL, e]] at zp
    have k2 : (p.ty * 16 + flagsN p) / 2 % 4 = p.qos := by rw [← b2]; omega
    have k8 : ((p.ty * 16 + flagsN p) / 8 % 2 == 1) = p.dup := by rw [← b8, ← bit_eq, show (p.ty * 16 + flagsN p) / 8 % 2 = flagsN p / 8 % 2 by omega]
    have k1 : ((p.ty * 16 + flagsN p) % 2 == 1) = p.ret := by rw [← b1, ← bit_eq, show (p.ty * 16 + flagsN p) % 2 = flagsN p / 1 % 2 by omega]
    have hP : gPub (p.ty * 16 + flagsN p) = (((zPk.s_ty 3).s_dup p.dup).s_qos p.qos).s_ret p.ret := by unfold gPub; rw [k8, k2, k1]
    obtain ⟨g1, g2⟩ := gd_field p.topic ((if 0 < p.qos then wordL p.id else []) ++ p.load) (val_len (nm_val hm))
    have hX : pubX p = fieldL p.topic ++ ((if 0 < p.qos then wordL p.id else []) ++ p.load) := rfl
    rw [← hX] at g1 g2
    rw [hb, if_neg (by omega), if_neg (by omega), if_pos e, nil_of hn (by omega) (by omega), hP, k2, g1, g2]
    by_cases h0 : 0 < p.qos
    · rw [if_pos h0, if_pos h0, (gw_word p.id _ np.id.1 np.id.2).1, (gw_word p.id _ np.id.1 np.id.2).2]
      rw [pub_inj (p := ((((((zPk.s_ty 3).s_dup p.dup).s_qos p.qos).s_ret p.ret).s_topic p.topic).s_id p.id).s_load p.load) (q := p) (by rw [pubL_pos (((((((zPk.s_ty 3).s_dup p.dup).s_qos p.qos).s_ret p.ret).s_topic p.topic).s_id p.id).s_load p.load) h0]; rfl) zp (by rw [e]; rfl) rfl rfl rfl rfl (fun _ => rfl) rfl]
    · rw [if_neg h0, if_neg h0, List.nil_append]
      have hd : p.dup = false ∧ p.id = 0 := by
        rw [pubL_neg p h0] at zp
        cases p
        simp only [Pk.s_topic, Pk.s_load, Pk.s_qos, Pk.s_ret, Pk.s_ty, zPk, Pk.mk.injEq] at zp
        exact ⟨zp.2.1, zp.2.2.2.2.1⟩
      rw [pub_inj (p := (((((zPk.s_ty 3).s_dup p.dup).s_qos p.qos).s_ret p.ret).s_topic p.topic).s_load p.load) (q := p) (by rw [pubL_neg ((((((zPk.s_ty 3).s_dup p.dup).s_qos p.qos).s_ret p.ret).s_topic p.topic).s_load p.load) h0, hd.1]; rfl) zp (by rw [e]; rfl) rfl rfl rfl rfl (fun hh => absurd hh h0) rfl]
  · skip
    have hb : bodyL p xs = wordL p.id := by unfold bodyL; rw [e]; rfl
    rw [hb, if_neg (by omega), if_neg (by omega), if_neg (by omega), if_neg (by omega), if_neg (by omega), if_neg (by omega), nil_of hn (by omega) (by omega)]
    rw [show takeL p = p.s_id 0 by unfold takeL; rw [e]; rfl] at zp
    have hw := (gw_word p.id [] np.id.1 np.id.2).1
    rw [List.append_nil] at hw
    rw [hw, e]
    rw [id_inj (p := (zPk.s_ty 4).s_id p.id) (q := p) (by rfl) zp (by rw [e]; rfl) rfl]
  · skip
    have hb : bodyL p xs = wordL p.id := by unfold bodyL; rw [e]; rfl
    rw [hb, if_neg (by omega), if_neg (by omega), if_neg (by omega), if_neg (by omega), if_neg (by omega), if_neg (by omega), nil_of hn (by omega) (by omega)]
    rw [show takeL p = p.s_id 0 by unfold takeL; rw [e]; rfl] at zp
    have hw := (gw_word p.id [] np.id.1 np.id.2).1
    rw [List.append_nil] at hw
    rw [hw, e]
    rw [id_inj (p := (zPk.s_ty 5).s_id p.id) (q := p) (by rfl) zp (by rw [e]; rfl) rfl]
  · skip
    have hb : bodyL p xs = wordL p.id := by unfold bodyL; rw [e]; rfl
    rw [hb, if_neg (by omega), if_neg (by omega), if_neg (by omega), if_neg (by omega), if_neg (by omega), if_neg (by omega), nil_of hn (by omega) (by omega)]
    rw [show takeL p = p.s_id 0 by unfold takeL; rw [e]; rfl] at zp
    have hw := (gw_word p.id [] np.id.1 np.id.2).1
    rw [List.append_nil] at hw
    rw [hw, e]
    rw [id_inj (p := (zPk.s_ty 6).s_id p.id) (q := p) (by rfl) zp (by rw [e]; rfl) rfl]
  · skip
    have hb : bodyL p xs = wordL p.id := by unfold bodyL; rw [e]; rfl
    rw [hb, if_neg (by omega), if_neg (by omega), if_neg (by omega), if_neg (by omega), if_neg (by omega), if_neg (by omega), nil_of hn (by omega) (by omega)]
    rw [show takeL p = p.s_id 0 by unfold takeL; rw [e]; rfl] at zp
    have hw := (gw_word p.id [] np.id.1 np.id.2).1
    rw [List.append_nil] at hw
    rw [hw, e]
    rw [id_inj (p := (zPk.s_ty 7).s_id p.id) (q := p) (by rfl) zp (by rw [e]; rfl) rfl]
  · have hb : bodyL p xs = wordL p.id ++ subX p.ty xs := by unfold bodyL; rw [e]; rfl
    have hx : ∀ x ∈ xs, valB x.1 = true ∧ 0 ≤ x.2 ∧ x.2 ≤ 255 ∧ (p.ty ≠ 8 → x.2 = 0) := by
      intro x hx
      have hn := np.sub x hx
      by_cases e8 : p.ty = 8
      · exact ⟨(sbR_mem (h.sub e8) x hx).1, hn.1, hn.2, fun hh => absurd e8 hh⟩
      · have := sbR_mem (h.uns (by omega)) x hx
        exact ⟨this.1, hn.1, hn.2, fun _ => by omega⟩
    have hs := gs_back p.ty xs hx
    rw [show takeL p = p.s_id 0 by unfold takeL; rw [e]; rfl] at zp
    rw [if_neg (by omega), if_neg (by omega), if_neg (by omega), if_pos (by omega), hb, (gw_word p.id _ np.id.1 np.id.2).1, (gw_word p.id _ np.id.1 np.id.2).2, hs, e]
    rw [id_inj (p := (zPk.s_ty 8).s_id p.id) (q := p) (by rfl) zp (by rw [e]; rfl) rfl]
  · have hb : bodyL p xs = wordL p.id ++ p.codes := by unfold bodyL; rw [e]; rfl
    rw [show takeL p = (p.s_id 0).s_codes [] by simp [takeL, e]] at zp
    rw [hb, if_neg (by omega), if_neg (by omega), if_neg (by omega), if_neg (by omega), if_pos e, nil_of hn (by omega) (by omega), (gw_word p.id _ np.id.1 np.id.2).1, (gw_word p.id _ np.id.1 np.id.2).2]
    rw [cd_inj (p := ((zPk.s_ty 9).s_id p.id).s_codes p.codes) (q := p) (by rfl) zp (by rw [e]; rfl) rfl rfl]
  · have hb : bodyL p xs = wordL p.id ++ subX p.ty xs := by unfold bodyL; rw [e]; rfl
    have hx : ∀ x ∈ xs, valB x.1 = true ∧ 0 ≤ x.2 ∧ x.2 ≤ 255 ∧ (p.ty ≠ 8 → x.2 = 0) := by
      intro x hx
      have hn := np.sub x hx
      by_cases e8 : p.ty = 8
      · exact ⟨(sbR_mem (h.sub e8) x hx).1, hn.1, hn.2, fun hh => absurd e8 hh⟩
      · have := sbR_mem (h.uns (by omega)) x hx
        exact ⟨this.1, hn.1, hn.2, fun _ => by omega⟩
    have hs := gs_back p.ty xs hx
    rw [show takeL p = p.s_id 0 by unfold takeL; rw [e]; rfl] at zp
    rw [if_neg (by omega), if_neg (by omega), if_neg (by omega), if_pos (by omega), hb, (gw_word p.id _ np.id.1 np.id.2).1, (gw_word p.id _ np.id.1 np.id.2).2, hs, e]
    rw [id_inj (p := (zPk.s_ty 10).s_id p.id) (q := p) (by rfl) zp (by rw [e]; rfl) rfl]
  · skip
    have hb : bodyL p xs = wordL p.id := by unfold bodyL; rw [e]; rfl
    rw [hb, if_neg (by omega), if_neg (by omega), if_neg (by omega), if_neg (by omega), if_neg (by omega), if_neg (by omega), nil_of hn (by omega) (by omega)]
    rw [show takeL p = p.s_id 0 by unfold takeL; rw [e]; rfl] at zp
    have hw := (gw_word p.id [] np.id.1 np.id.2).1
    rw [List.append_nil] at hw
    rw [hw, e]
    rw [id_inj (p := (zPk.s_ty 11).s_id p.id) (q := p) (by rfl) zp (by rw [e]; rfl) rfl]
  · have hb : bodyL p xs = [] := by unfold bodyL; rw [e]; rfl
    rw [if_neg (by omega), if_neg (by omega), if_neg (by omega), if_neg (by omega), if_neg (by omega), if_pos (by omega), nil_of hn (by omega) (by omega), e, no_back h e (by decide)]
  · have hb : bodyL p xs = [] := by unfold bodyL; rw [e]; rfl
    rw [if_neg (by omega), if_neg (by omega), if_neg (by omega), if_neg (by omega), if_neg (by omega), if_pos (by omega), nil_of hn (by omega) (by omega), e, no_back h e (by decide)]
  · have hb : bodyL p xs = [] := by unfold bodyL; rw [e]; rfl
    rw [if_neg (by omega), if_neg (by omega), if_neg (by omega), if_neg (by omega), if_neg (by omega), if_pos (by omega), nil_of hn (by omega) (by omega), e, no_back h e (by decide)]
end
end Go.Proofs.YtnaedcennichlaaGreatDoor
