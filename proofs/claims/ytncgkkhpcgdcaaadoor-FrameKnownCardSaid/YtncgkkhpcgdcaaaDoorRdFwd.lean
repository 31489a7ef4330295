/-
  read: a packet's bytes are decoded to it; what is decoded has these bytes.
-/
import Derived.Test.YtncgkkhpcgdcaaaDoorRdInv
set_option linter.unusedSimpArgs false
set_option linter.unusedVariables false
namespace Go.Proofs.YtncgkkhpcgdcaaaDoor

theorem name_val : valB nameL = true := by decide +kernel
theorem name_f (t : List UInt8) (f : Bool) (p : Pk) : psName ⟨fieldL nameL ++ t, f, p⟩ = ⟨t, f, p⟩ := by
  obtain ⟨h1, h2, h3⟩ := tx_field nameL t f name_val
  unfold psName
  dsimp only
  rw [if_pos h1, h2, h3]
theorem level_f (v : Int) (t : List UInt8) (f : Bool) (p : Pk) (h0 : 0 ≤ v) (h1 : v < 256) : psLevel ⟨toB v :: t, f, p⟩ = ⟨t, f, p.s_level v⟩ := by
  obtain ⟨h2, h3⟩ := by_byte v t f h0 h1
  unfold psLevel
  dsimp only
  rw [h2, h3]; rfl
theorem flag_f (v : Int) (t : List UInt8) (f : Bool) (p : Pk) (h0 : 0 ≤ v) (h1 : v < 256) (hb : bitB v 1 = false) : psFlag ⟨toB v :: t, f, p⟩ = ⟨t, f, p.s_clean (bitB v 2)⟩ := by
  obtain ⟨h2, h3⟩ := by_byte v t f h0 h1
  unfold psFlag
  dsimp only
  rw [h2, h3, hb, if_neg (by simp)]; rfl
theorem keep_f (v : Int) (t : List UInt8) (f : Bool) (p : Pk) (h0 : 0 ≤ v) (h1 : v ≤ 65535) : psKeep ⟨wordL v ++ t, f, p⟩ = ⟨t, f, p.s_keep v⟩ := by
  obtain ⟨h2, h3, h4⟩ := wo_word v t f h0 h1
  unfold psKeep
  dsimp only
  rw [h2, h3, h4]
theorem id_f (v : Int) (t : List UInt8) (f : Bool) (p : Pk) (h0 : 0 ≤ v) (h1 : v ≤ 65535) : psId ⟨wordL v ++ t, f, p⟩ = ⟨t, f, p.s_id v⟩ := by
  obtain ⟨h2, h3, h4⟩ := wo_word v t f h0 h1
  unfold psId
  dsimp only
  rw [h2, h3, h4]
theorem client_f (x t : List UInt8) (f : Bool) (p : Pk) (h : valB x = true) : psClient ⟨fieldL x ++ t, f, p⟩ = ⟨t, f, p.s_client x⟩ := by
  obtain ⟨h1, h2, h3⟩ := tx_field x t f h
  unfold psClient
  dsimp only
  rw [h1, h2, h3]
theorem willT_f (x t : List UInt8) (f : Bool) (p : Pk) (h : valB x = true) : psWillT ⟨fieldL x ++ t, f, p⟩ = ⟨t, f, p.s_wt x⟩ := by
  obtain ⟨h1, h2, h3⟩ := tx_field x t f h
  unfold psWillT
  dsimp only
  rw [h1, h2, h3]
theorem userT_f (x t : List UInt8) (f : Bool) (p : Pk) (h : valB x = true) : psUserT ⟨fieldL x ++ t, f, p⟩ = ⟨t, f, p.s_user x⟩ := by
  obtain ⟨h1, h2, h3⟩ := tx_field x t f h
  unfold psUserT
  dsimp only
  rw [h1, h2, h3]
theorem willL_f (x t : List UInt8) (f : Bool) (p : Pk) (h : x.length ≤ 65535) : psWillL ⟨fieldL x ++ t, f, p⟩ = ⟨t, f, p.s_wl x⟩ := by
  obtain ⟨h1, h2, h3⟩ := da_field x t f h
  unfold psWillL
  dsimp only
  rw [h1, h2, h3]
theorem passT_f (x t : List UInt8) (f : Bool) (p : Pk) (h : x.length ≤ 65535) : psPassT ⟨fieldL x ++ t, f, p⟩ = ⟨t, f, p.s_pass x⟩ := by
  obtain ⟨h1, h2, h3⟩ := da_field x t f h
  unfold psPassT
  dsimp only
  rw [h1, h2, h3]
section
variable {p : Pk} {xs : List (List UInt8 × Int)}
theorem con_back (h : Ok p xs) (np : Num p xs) (e : p.ty = 1) : psCon ⟨conX p, false, zPk.s_ty 1⟩ = ⟨[], false, p⟩ := by
  have cp := con_of (h.con e)
  have wq := cp.wq np.wq.1
  have lp : p.level = 4 := by have := h.con e; simp only [conR, Bool.and_eq_true, beq_iff_eq] at this; exact this.1
  obtain ⟨b1, b2, b4, b8, b32, b64, b128⟩ := cbits p np.wq.1 wq
  have bc := cfl_bd np.wq.1 wq
  have e1 : psName ⟨conX p, false, zPk.s_ty 1⟩ = ⟨toB 4 :: (toB (cflN p) :: (wordL p.keep ++ (fieldL p.client ++ (willL p ++ (userL p ++ passL p))))), false, zPk.s_ty 1⟩ := name_f _ _ _
  unfold psCon
  rw [e1, level_f 4 _ _ _ (by omega) (by omega)]
  dsimp only
  rw [(by_byte (cflN p) _ false bc.1 bc.2).1, flag_f _ _ _ _ bc.1 bc.2 b1, keep_f _ _ _ _ np.keep.1 np.keep.2, client_f _ _ _ _ cp.client]
  have hw : psWill (cflN p) ⟨willL p ++ (userL p ++ passL p), false, (((((zPk.s_ty 1).s_level 4).s_clean (bitB (cflN p) 2)).s_keep p.keep).s_client p.client)⟩ = ⟨userL p ++ passL p, false, ((((((zPk.s_ty 1).s_level 4).s_clean p.clean).s_keep p.keep).s_client p.client).s_hasWill p.hasWill).s_will p.wt p.wl p.wq p.wr⟩ := by
    unfold psWill willL
    rw [b4, b8, b32, b2]
    cases hh : p.hasWill with
    | true =>
      rw [if_pos rfl, if_pos rfl]
      dsimp only
      rw [List.append_assoc, willT_f _ _ _ _ (cp.wt hh), willL_f _ _ _ _ (cp.wl hh)]
      rfl
    | false =>
      obtain ⟨k1, k2, k3, k4⟩ := cp.will hh
      rw [if_neg (by simp), if_neg (by simp), k1, k2, k3, k4]
      rfl
  rw [hw]
  have hl : psLogin (cflN p) ⟨userL p ++ passL p, false, ((((((zPk.s_ty 1).s_level 4).s_clean p.clean).s_keep p.keep).s_client p.client).s_hasWill p.hasWill).s_will p.wt p.wl p.wq p.wr⟩ = ⟨[], false, conP 4 p.clean p.keep p.client p.hasWill p.wt p.wl p.wq p.wr p.hasUser p.hasPass p.user p.pass⟩ := by
    unfold psLogin userL passL psHas
    rw [b64, b128]
    cases hu : p.hasUser with
    | true =>
      cases hp : p.hasPass with
      | true =>
        rw [if_pos rfl, if_pos rfl, if_pos rfl, if_pos rfl]
        dsimp only
        rw [userT_f _ _ _ _ (cp.user hu), show fieldL p.pass = fieldL p.pass ++ [] by simp, passT_f _ _ _ _ (cp.pass hp)]
        rfl
      | false =>
        rw [if_pos rfl, if_neg (by simp), if_pos rfl, if_neg (by simp)]
        dsimp only
        rw [userT_f _ _ _ _ (cp.user hu), cp.pass0 hp]
        rfl
    | false =>
      cases hp : p.hasPass with
      | true =>
        rw [if_neg (by simp), if_pos rfl, if_neg (by simp), if_pos rfl]
        dsimp only
        rw [List.nil_append, show fieldL p.pass = fieldL p.pass ++ [] by simp, passT_f _ _ _ _ (cp.pass hp), cp.user0 hu]
        rfl
      | false =>
        rw [if_neg (by simp), if_neg (by simp), if_neg (by simp), if_neg (by simp), cp.user0 hu, cp.pass0 hp]
        rfl
  rw [hl]
  have zp := h.zero
  rw [show takeL p = conL p by simp [takeL, e]] at zp
  rw [con_inj (p := conP 4 p.clean p.keep p.client p.hasWill p.wt p.wl p.wq p.wr p.hasUser p.hasPass p.user p.pass) (q := p) (by rfl) zp (by rw [e]; rfl) (by rw [lp]; rfl) rfl rfl rfl rfl rfl rfl rfl rfl rfl rfl rfl rfl]
theorem ack_back (h : Ok p xs) (np : Num p xs) (e : p.ty = 2) : psAck ⟨[toB (yesI p.present 1), toB p.code], false, zPk.s_ty 2⟩ = ⟨[], false, p⟩ := by
  have hb : 0 ≤ yesI p.present 1 ∧ yesI p.present 1 ≤ 1 := by unfold yesI; split <;> omega
  have hc := np.code
  obtain ⟨h1, h2⟩ := by_byte (yesI p.present 1) [toB p.code] false hb.1 (by omega)
  obtain ⟨h3, h4⟩ := by_byte p.code [] false hc.1 (by omega)
  have hpr : (yesI p.present 1 != 0) = p.present := by cases p.present <;> rfl
  unfold psAck psAck1
  dsimp only
  rw [h1, h2, if_neg (by omega), hpr]
  unfold psAck2
  show (⟨[], byF [toB p.code] false, ((zPk.s_ty 2).s_present p.present).s_code (byV [toB p.code])⟩ : Ps) = _
  rw [h3, h4]
  have zp := h.zero
  rw [show takeL p = ackL p by simp [takeL, e]] at zp
  rw [ack_inj (p := ((zPk.s_ty 2).s_present p.present).s_code p.code) (q := p) (by rfl) zp (by rw [e]; rfl) rfl rfl]
theorem pub1_f (x t : List UInt8) (f : Bool) (q : Pk) (fl : Int) (h : valB x = true) : psPub1 fl ⟨fieldL x ++ t, f, q⟩ = ⟨t, f, (((q.s_dup (bitB fl 8)).s_qos (fl / 2 % 4)).s_ret (bitB fl 1)).s_topic x⟩ := by
  obtain ⟨h1, h2, h3⟩ := tx_field x t f h
  unfold psPub1
  dsimp only
  rw [h1, h2, h3]
theorem pub_back (h : Ok p xs) (np : Num p xs) (e : p.ty = 3) : psPub (flagsN p) ⟨pubX p, false, zPk.s_ty 3⟩ = ⟨[], false, p⟩ := by
  obtain ⟨hq, hm⟩ := pub_qos h e
  obtain ⟨b8, b2, b1⟩ := pbits p e np.qos.1 hq
  have zp := h.zero
  rw [show takeL p = pubL p by simp [takeL, e]] at zp
  unfold psPub pubX
  rw [b2]
  rw [pub1_f _ _ _ _ _ (nm_val hm), b8, b2, b1]
  by_cases h0 : 0 < p.qos
  · rw [if_pos h0, if_pos h0, id_f _ _ _ _ np.id.1 np.id.2]
    unfold psLoad
    rw [pub_inj (p := ((((((zPk.s_ty 3).s_dup p.dup).s_qos p.qos).s_ret p.ret).s_topic p.topic).s_id p.id).s_load p.load) (q := p) (by rw [pubL_pos (((((((zPk.s_ty 3).s_dup p.dup).s_qos p.qos).s_ret p.ret).s_topic p.topic).s_id p.id).s_load p.load) h0]; rfl) zp (by rw [e]; rfl) rfl rfl rfl rfl (fun _ => rfl) rfl]
  · rw [if_neg h0, if_neg h0]
    show (⟨[], false, (((((zPk.s_ty 3).s_dup p.dup).s_qos p.qos).s_ret p.ret).s_topic p.topic).s_load p.load⟩ : Ps) = _
    have hd : p.dup = false ∧ p.id = 0 := by
      rw [pubL_neg p h0] at zp
      cases p
      simp only [Pk.s_topic, Pk.s_load, Pk.s_qos, Pk.s_ret, Pk.s_ty, zPk, Pk.mk.injEq] at zp
      exact ⟨zp.2.1, zp.2.2.2.2.1⟩
    rw [pub_inj (p := (((((zPk.s_ty 3).s_dup p.dup).s_qos p.qos).s_ret p.ret).s_topic p.topic).s_load p.load) (q := p) (by rw [pubL_neg ((((((zPk.s_ty 3).s_dup p.dup).s_qos p.qos).s_ret p.ret).s_topic p.topic).s_load p.load) h0, hd.1]; rfl) zp (by rw [e]; rfl) rfl rfl rfl rfl (fun hh => absurd hh h0) rfl]
theorem id_back {t : Int} (h : Ok p xs) (np : Num p xs) (e : p.ty = t) (ht : t = 4 ∨ t = 5 ∨ t = 6 ∨ t = 7 ∨ t = 11) : psId ⟨wordL p.id, false, zPk.s_ty t⟩ = ⟨[], false, p⟩ := by
  have zp := h.zero
  rw [show takeL p = p.s_id 0 by unfold takeL; rw [e]; rcases ht with rfl | rfl | rfl | rfl | rfl <;> rfl] at zp
  rw [show wordL p.id = wordL p.id ++ [] by simp, id_f _ _ _ _ np.id.1 np.id.2]
  rw [id_inj (p := (zPk.s_ty t).s_id p.id) (q := p) (by rfl) zp (by rw [e]; rfl) rfl]
theorem no_back {t : Int} (h : Ok p xs) (e : p.ty = t) (ht : t = 12 ∨ t = 13 ∨ t = 14) : zPk.s_ty t = p := by
  have zp := h.zero
  rw [show takeL p = p by unfold takeL; rw [e]; rcases ht with rfl | rfl | rfl <;> rfl] at zp
  exact no_inj (p := zPk.s_ty t) (q := p) (by rfl) zp (by rw [e]; rfl)
theorem codes_back (h : Ok p xs) (np : Num p xs) (e : p.ty = 9) : psCodes (psId ⟨wordL p.id ++ p.codes, false, zPk.s_ty 9⟩) = ⟨[], false, p⟩ := by
  have zp := h.zero
  rw [show takeL p = (p.s_id 0).s_codes [] by simp [takeL, e]] at zp
  rw [id_f _ _ _ _ np.id.1 np.id.2]
  unfold psCodes
  rw [cd_inj (p := ((zPk.s_ty 9).s_id p.id).s_codes p.codes) (q := p) (by rfl) zp (by rw [e]; rfl) rfl rfl]
theorem su_back (t : Int) : ∀ (ys : List (List UInt8 × Int)), (∀ x ∈ ys, valB x.1 = true ∧ 0 ≤ x.2 ∧ x.2 ≤ 255 ∧ (t ≠ 8 → x.2 = 0)) → suT t (subX t ys) false = (false, ys)
  | [], _ => suT_nil t false
  | x :: r, h => by
    obtain ⟨h1, h2, h3, h4⟩ := h x (by simp)
    have ih := su_back t r (fun y hy => h y (by simp [hy]))
    have hne : fieldL x.1 ++ (if t = 8 then [toB x.2] else []) ++ subX t r ≠ [] := by simp [fieldL]
    show suT t (fieldL x.1 ++ (if t = 8 then [toB x.2] else []) ++ subX t r) false = _
    obtain ⟨k1, k2, k3⟩ := tx_field x.1 ((if t = 8 then [toB x.2] else []) ++ subX t r) false h1
    rw [← List.append_assoc] at k1 k2 k3
    by_cases ht : t = 8
    · subst ht
      obtain ⟨j1, j2⟩ := by_byte x.2 (subX 8 r) false h2 (by omega)
      rw [suT_8 _ _ hne, k1, k2, k3]
      simp only [if_true, List.singleton_append]
      rw [j1, j2]
      show ((suT 8 (subX 8 r) false).1, (x.1, x.2) :: (suT 8 (subX 8 r) false).2) = _
      rw [ih]
    · rw [suT_10 t _ _ hne ht, k1, k2, k3, if_neg ht, List.nil_append, ih, ← h4 ht]
theorem subs_back {t : Int} (h : Ok p xs) (np : Num p xs) (e : p.ty = t) (ht : t = 8 ∨ t = 10) : psSubs t ⟨wordL p.id ++ subX t xs, false, zPk.s_ty t⟩ = ⟨[], false, p⟩ ∧ psXs t (wordL p.id ++ subX t xs) false = xs := by
  have zp := h.zero
  rw [show takeL p = p.s_id 0 by unfold takeL; rw [e]; rcases ht with rfl | rfl <;> rfl] at zp
  obtain ⟨h2, h3, h4⟩ := wo_word p.id (subX t xs) false np.id.1 np.id.2
  have hx : ∀ x ∈ xs, valB x.1 = true ∧ 0 ≤ x.2 ∧ x.2 ≤ 255 ∧ (t ≠ 8 → x.2 = 0) := by
    intro x hx
    have hn := np.sub x hx
    rcases ht with rfl | rfl
    · exact ⟨(sbR_mem (h.sub e) x hx).1, hn.1, hn.2, fun hh => absurd rfl hh⟩
    · have := sbR_mem (h.uns e) x hx
      exact ⟨this.1, hn.1, hn.2, fun _ => by omega⟩
  have hs := su_back t xs hx
  constructor
  · unfold psSubs
    dsimp only
    rw [h2, h3, h4, hs]
    rw [id_inj (p := (zPk.s_ty t).s_id p.id) (q := p) (by rfl) zp (by rw [e]; rfl) rfl]
  · unfold psXs
    rw [if_pos ht, h3, h4, hs]
theorem body_back (h : Ok p xs) (np : Num p xs) : psBody p.ty (flagsN p) ⟨bodyL p xs, false, zPk.s_ty p.ty⟩ = ⟨[], false, p⟩ ∧ psXs p.ty (bodyL p xs) false = xs := by
  have hn := h.none
  rcases h.ty with e | e | e | e | e | e | e | e | e | e | e | e | e | e
  · have hb : bodyL p xs = conX p := by unfold bodyL; rw [if_pos e]
    rw [hb, e, nil_of hn (by omega) (by omega)]
    exact ⟨con_back h np e, rfl⟩
  · have hb : bodyL p xs = [toB (yesI p.present 1), toB p.code] := by unfold bodyL; rw [e]; rfl
    rw [hb, e, nil_of hn (by omega) (by omega)]
    exact ⟨ack_back h np e, rfl⟩
  · have hb : bodyL p xs = pubX p := by unfold bodyL; rw [e]; rfl
    rw [hb, e, nil_of hn (by omega) (by omega)]
    exact ⟨pub_back h np e, rfl⟩
  · have hb : bodyL p xs = wordL p.id := by unfold bodyL; rw [e]; rfl
    rw [hb, e, nil_of hn (by omega) (by omega)]
    exact ⟨id_back h np e (by decide), rfl⟩
  · have hb : bodyL p xs = wordL p.id := by unfold bodyL; rw [e]; rfl
    rw [hb, e, nil_of hn (by omega) (by omega)]
    exact ⟨id_back h np e (by decide), rfl⟩
  · have hb : bodyL p xs = wordL p.id := by unfold bodyL; rw [e]; rfl
    rw [hb, e, nil_of hn (by omega) (by omega)]
    exact ⟨id_back h np e (by decide), rfl⟩
  · have hb : bodyL p xs = wordL p.id := by unfold bodyL; rw [e]; rfl
    rw [hb, e, nil_of hn (by omega) (by omega)]
    exact ⟨id_back h np e (by decide), rfl⟩
  · have hb : bodyL p xs = wordL p.id ++ subX 8 xs := by unfold bodyL; rw [e]; rfl
    rw [hb, e]
    exact subs_back h np e (by decide)
  · have hb : bodyL p xs = wordL p.id ++ p.codes := by unfold bodyL; rw [e]; rfl
    rw [hb, e, nil_of hn (by omega) (by omega)]
    exact ⟨codes_back h np e, rfl⟩
  · have hb : bodyL p xs = wordL p.id ++ subX 10 xs := by unfold bodyL; rw [e]; rfl
    rw [hb, e]
    exact subs_back h np e (by decide)
  · have hb : bodyL p xs = wordL p.id := by unfold bodyL; rw [e]; rfl
    rw [hb, e, nil_of hn (by omega) (by omega)]
    exact ⟨id_back h np e (by decide), rfl⟩
  · have hb : bodyL p xs = [] := by unfold bodyL; rw [e]; rfl
    rw [hb, e, nil_of hn (by omega) (by omega)]
    exact ⟨by show (⟨[], false, zPk.s_ty 12⟩ : Ps) = _; rw [no_back h e (by decide)], rfl⟩
  · have hb : bodyL p xs = [] := by unfold bodyL; rw [e]; rfl
    rw [hb, e, nil_of hn (by omega) (by omega)]
    exact ⟨by show (⟨[], false, zPk.s_ty 13⟩ : Ps) = _; rw [no_back h e (by decide)], rfl⟩
  · have hb : bodyL p xs = [] := by unfold bodyL; rw [e]; rfl
    rw [hb, e, nil_of hn (by omega) (by omega)]
    exact ⟨by show (⟨[], false, zPk.s_ty 14⟩ : Ps) = _; rw [no_back h e (by decide)], rfl⟩
/-- The first byte of a packet. -/
theorem head_bd (h : Ok p xs) (np : Num p xs) : 0 ≤ p.ty * 16 + flagsN p ∧ p.ty * 16 + flagsN p < 256 ∧ (p.ty * 16 + flagsN p) / 16 = p.ty ∧ (p.ty * 16 + flagsN p) % 16 = flagsN p ∧ firB (p.ty * 16 + flagsN p) = true := by
  have hf := flags_bd h np
  have ht := h.ty
  have e1 : (p.ty * 16 + flagsN p) / 16 = p.ty := by omega
  have e2 : (p.ty * 16 + flagsN p) % 16 = flagsN p := by omega
  refine ⟨by omega, by omega, e1, e2, ?_⟩
  unfold firB
  rw [e1, e2]
  by_cases e3 : p.ty = 3
  · have hq := (pub_qos h e3).1
    have := (pbits p e3 np.qos.1 hq).2.1
    rw [if_pos e3, this]
    simpa using hq
  · rw [if_neg e3]
    unfold flagsN
    rw [if_neg e3]
    by_cases e4 : p.ty = 6 ∨ p.ty = 8 ∨ p.ty = 10
    · rw [if_pos e4, if_pos e4]; rfl
    · rw [if_neg e4, if_neg e4]
      simp
      omega
end
theorem cut_cons (b : UInt8) (r : List UInt8) : cutR (b :: r) = if firB b.toNat then
      if (rdR r).2.2 = 0 then
        if (r.length : Int) - (rdR r).2.1 < (rdR r).1 then ([], 0, 2) else ((r.drop (rdR r).2.1.toNat).take (rdR r).1.toNat, 1 + (rdR r).2.1 + (rdR r).1, 0)
      else ([], 0, (rdR r).2.2)
    else ([], 0, 4) := rfl
theorem cut_of (c v : Int) (X t : List UInt8) (h0 : 0 ≤ c) (h1 : c < 256) (hf : firB c = true) (hv : (X.length : Int) = v) (hv1 : v ≤ 268435455) : cutR (toB c :: (lenL 3 v ++ (X ++ t))) = (X, 1 + sizeF v + v, 0) := by
  have hr := rdR_back v (X ++ t) (by omega) hv1
  have hs := lenL_size v (by omega) hv1
  rw [cut_cons, toB_toNat c h0 h1, if_pos hf, hr, if_pos rfl]
  dsimp only
  rw [if_neg (by simp only [List.length_append]; omega), show (sizeF v).toNat = (lenL 3 v).length by omega, List.drop_left, show v.toNat = X.length by omega, List.take_left]
theorem cut_short (c v : Int) (X : List UInt8) (k : Nat) (h0 : 0 ≤ c) (h1 : c < 256) (hf : firB c = true) (hv : (X.length : Int) = v) (hv1 : v ≤ 268435455) (hk : k < (toB c :: (lenL 3 v ++ X)).length) : cutR ((toB c :: (lenL 3 v ++ X)).take k) = ([], 0, 2) := by
  have hs := lenL_size v (by omega) hv1
  cases k with
  | zero => rfl
  | succ k =>
    rw [List.take_succ_cons, cut_cons, toB_toNat c h0 h1, if_pos hf]
    by_cases hk2 : k < (lenL 3 v).length
    · rw [List.take_append_of_le_length (by omega), rdR_cut v k (by omega) hv1 hk2, if_neg (by simp)]
    · have e : (lenL 3 v ++ X).take k = lenL 3 v ++ X.take (k - (lenL 3 v).length) := by rw [List.take_append, List.take_of_length_le (by omega)]
      rw [e, rdR_back v _ (by omega) hv1, if_pos rfl]
      dsimp only
      rw [if_pos]
      simp only [List.length_cons, List.length_append] at hk
      rw [List.length_append, List.length_take]
      omega
theorem byV_toB (c : Int) (l : List UInt8) (h0 : 0 ≤ c) (h1 : c < 256) : byV (toB c :: l) = c := toB_toNat c h0 h1
section
variable {p : Pk} {xs : List (List UInt8 × Int)}
theorem oth_no (h : Ok p xs) (c : Int) (hc : c / 16 = p.ty) : othR c (bodyL p xs) = (0, false) := by
  unfold othR
  by_cases e : c / 16 = 1
  · rw [if_pos e]
    have e1 : p.ty = 1 := by omega
    have hb : bodyL p xs = fieldL nameL ++ (toB 4 :: (toB (cflN p) :: (wordL p.keep ++ (fieldL p.client ++ (willL p ++ (userL p ++ passL p)))))) := by unfold bodyL; rw [if_pos e1]; rfl
    rw [hb]
    obtain ⟨h1, h2, _⟩ := tx_field nameL (toB 4 :: (toB (cflN p) :: (wordL p.keep ++ (fieldL p.client ++ (willL p ++ (userL p ++ passL p)))))) false name_val
    rw [h1, h2, if_pos rfl, if_pos]
    rw [byV_toB 4 _ (by omega) (by omega)]
    simp
  · rw [if_neg e]
theorem par_back (h : Ok p xs) (np : Num p xs) (c : Int) (hc : c / 16 = p.ty) (hf : c % 16 = flagsN p) : parR c (bodyL p xs) = (p, xs, true) := by
  obtain ⟨h1, h2⟩ := body_back h np
  have hr := h.lo
  unfold parR endP endX
  rw [hc, hf, h1, h2]
  simp [hr]
/-- What was written is read. -/
theorem dec_back (h : Ok p xs) (np : Num p xs) (t : List UInt8) : decR (encL p xs ++ t) = (p, xs, ((encL p xs).length : Int), 0) := by
  obtain ⟨h0, h1, h2, h3, h4⟩ := head_bd h np
  have hl := body_len h
  have he := enc_len h
  have hc := cut_of (p.ty * 16 + flagsN p) (restN p xs) (bodyL p xs) t h0 h1 h4 hl h.hi
  have hE : encL p xs ++ t = toB (p.ty * 16 + flagsN p) :: (lenL 3 (restN p xs) ++ (bodyL p xs ++ t)) := by unfold encL; simp
  rw [hE]
  unfold decR
  rw [hc, byV_toB _ _ h0 h1, if_pos rfl]
  dsimp only
  rw [oth_no h _ h2, par_back h np _ h2 h3, if_neg (by simp), if_pos rfl, he]
/-- Cut it is too short. -/
theorem dec_short (h : Ok p xs) (np : Num p xs) (k : Nat) (hk : k < (encL p xs).length) : decR ((encL p xs).take k) = (zPk, [], 0, 2) := by
  obtain ⟨h0, h1, h2, h3, h4⟩ := head_bd h np
  have hc := cut_short (p.ty * 16 + flagsN p) (restN p xs) (bodyL p xs) k h0 h1 h4 (body_len h) h.hi hk
  have hE : encL p xs = toB (p.ty * 16 + flagsN p) :: (lenL 3 (restN p xs) ++ bodyL p xs) := rfl
  unfold decR
  rw [hE, hc, if_neg (by simp)]
end
/-- What stands at the beginning of what is cut out. -/
theorem cut_ok {s : List UInt8} (h : (cutR s).2.2 = 0) : ∃ b r n u, s = b :: r ∧ firB b.toNat = true ∧ rdR r = (n, u, 0) ∧ 0 ≤ n ∧ 1 ≤ u ∧ u + n ≤ r.length ∧ (lenL 3 n).length ≤ u ∧ cutR s = ((r.drop u.toNat).take n.toNat, 1 + u + n, 0) ∧ n ≤ 268435455 := by
  rcases s with _ | ⟨b, r⟩
  · simp [cutR] at h
  · rw [cut_cons] at h
    split at h
    · rename_i hf
      split at h
      · rename_i hr
        split at h
        · simp at h
        · rename_i hl
          obtain ⟨j, hj, hc, hjl, hn0, hn1, ht⟩ := rdR_ok r (rdR r).1 (rdR r).2.1 (by rw [← hr])
          have hp : (128 : Int) ^ (j + 1) ≤ 268435456 := by
            have : j = 0 ∨ j = 1 ∨ j = 2 ∨ j = 3 := by omega
            rcases this with rfl | rfl | rfl | rfl <;> decide
          refine ⟨b, r, (rdR r).1, (rdR r).2.1, rfl, hf, by rw [← hr], hn0, by omega, by omega, ?_, ?_, by omega⟩
          · obtain ⟨z, hz1, hz2, hz3, hz4, hz5⟩ := lenL_enc (rdR r).1 hn0 (by omega)
            have := hz5 j hn1
            rw [hz4, encF_len]
            omega
          · rw [cut_cons, if_pos hf, if_pos hr, if_neg hl]
      · rename_i hr
        exact absurd h hr
    · simp at h
theorem cut_er (s : List UInt8) : (cutR s).2.2 = 0 ∨ cutR s = ([], 0, 2) ∨ cutR s = ([], 0, 4) := by
  rcases s with _ | ⟨b, r⟩
  · right; left; rfl
  · rw [cut_cons]
    split
    · split
      · split
        · right; left; rfl
        · left; rfl
      · rename_i h
        rcases rdR_bad r with ⟨n, c, hh⟩ | hh | hh
        · rw [hh] at h; exact absurd rfl h
        · right; left; rw [hh]
        · right; right; rw [hh]
    · right; right; rfl
theorem dec_er {s : List UInt8} {p : Pk} {xs : List (List UInt8 × Int)} {n e : Int} (h : decR s = (p, xs, n, e)) (he : e ≠ 0) : (e = 2 ∨ e = 4) ∧ p = zPk ∧ xs = [] ∧ n = 0 := by
  unfold decR at h
  split at h
  · split at h
    · simp only [Prod.mk.injEq] at h
      exact absurd h.2.2.2.symm he
    · split at h
      · simp only [Prod.mk.injEq] at h
        exact absurd h.2.2.2.symm he
      · simp only [Prod.mk.injEq] at h
        obtain ⟨rfl, rfl, rfl, rfl⟩ := h
        exact ⟨Or.inr rfl, rfl, rfl, rfl⟩
  · rename_i h0
    simp only [Prod.mk.injEq] at h
    obtain ⟨rfl, rfl, rfl, rfl⟩ := h
    refine ⟨?_, rfl, rfl, rfl⟩
    rcases cut_er s with h1 | h1 | h1
    · exact absurd h1 h0
    · rw [h1]; exact Or.inl rfl
    · rw [h1]; exact Or.inr rfl
theorem got_fit {t fl : Int} {l : List UInt8} {p : Pk} {xs : List (List UInt8 × Int)} (h : Got t fl l p xs) (hl : l.length ≤ 90000) : Fit p xs := by
  have h1 := h.tot
  have h2 := h.num
  have h3 := h.nums
  exact ⟨h3.ty, h3.qos, h3.id, h3.level, h3.keep, h3.wq, h3.code, by omega, by omega, h3.sub⟩
theorem fit_level (v : Int) (h0 : 0 ≤ v) (h1 : v ≤ 255) : Fit ((zPk.s_ty 1).s_level v) [] :=
  ⟨nb8 1 rfl, nb8 0 rfl, nb16 0 rfl, ⟨h0, h1⟩, nb16 0 rfl, nb8 0 rfl, nb8 0 rfl, by simp [totB, sumB, Pk.s_level, Pk.s_ty, zPk], by simp, by simp⟩
theorem fit_z : Fit zPk [] := ⟨nb8 0 rfl, nb8 0 rfl, nb16 0 rfl, nb8 0 rfl, nb16 0 rfl, nb8 0 rfl, nb8 0 rfl, by simp [totB, sumB, zPk], by simp, by simp⟩
theorem bodyY_ok {p : Pk} {xs : List (List UInt8 × Int)} (h : Ok p xs) : bodyY p xs = bodyL p xs := by
  unfold bodyY
  by_cases e : p.ty = 1
  · have lp : p.level = 4 := by have := h.con e; simp only [conR, Bool.and_eq_true, beq_iff_eq] at this; exact this.1
    rw [if_pos e]
    unfold bodyL conY conX
    rw [if_pos e, lp]
    rfl
  · rw [if_neg e]
/-- What a packet that is read has. -/
structure Was (s : List UInt8) (p : Pk) (xs : List (List UInt8 × Int)) (n : Int) (b : UInt8) (r : List UInt8) (v u : Int) : Prop where
  s : s = b :: r
  rd : rdR r = (v, u, 0)
  ok : Ok p xs
  fit : Fit p xs
  rest : restN p xs = v
  n : n = 1 + u + v
  lo : 0 ≤ v
  u1 : 1 ≤ u
  le : u + v ≤ r.length
  enc : encL p xs = b :: (lenL 3 v ++ (r.drop u.toNat).take v.toNat)
  len : (lenL 3 v).length ≤ u
  ty : p.ty = b.toNat / 16
theorem dec_ok {s : List UInt8} {p : Pk} {xs : List (List UInt8 × Int)} {n : Int} (h : decR s = (p, xs, n, 0)) (hl : (cutR s).1.length ≤ 90000) :
    (∃ v b r, s = b :: r ∧ p = (zPk.s_ty 1).s_level v ∧ xs = [] ∧ 0 ≤ v ∧ v ≤ 255 ∧ v ≠ 4 ∧ b.toNat / 16 = 1 ∧ 2 ≤ n ∧ n ≤ s.length) ∨ (∃ b r v u, Was s p xs n b r v u) := by
  unfold decR at h
  split at h
  · rename_i h0
    obtain ⟨b, r, m, u, hs, hf, hrd, hm0, hu1, hle, hll, hcut, hm1⟩ := cut_ok h0
    have hbl := b.toNat_lt
    have hbv : byV s = b.toNat := by rw [hs]; rfl
    rw [hbv] at h
    rw [hcut] at h hl
    dsimp only at h hl
    split at h
    · rename_i ho
      left
      simp only [Prod.mk.injEq] at h
      obtain ⟨rfl, rfl, rfl, _⟩ := h
      unfold othR at ho ⊢
      split at ho
      · rename_i e1
        split at ho
        · rename_i e2
          split at ho
          · cases ho
          · rename_i e3
            rw [if_pos e1, if_pos e2, if_neg e3]
            simp only [Bool.or_eq_true, beq_iff_eq, not_or] at e3
            have hb := by_bd (gtL ((r.drop u.toNat).take m.toNat) (getR ((r.drop u.toNat).take m.toNat)))
            refine ⟨_, b, r, hs, rfl, rfl, hb.1, hb.2, e3.2, by omega, by omega, ?_⟩
            rw [hs, List.length_cons]; omega
        · cases ho
      · cases ho
    · rename_i ho
      split at h
      · rename_i hp
        right
        simp only [Prod.mk.injEq] at h
        obtain ⟨h1, h2, rfl, _⟩ := h
        obtain ⟨B, hB⟩ : ∃ B, B = (r.drop u.toNat).take m.toNat := ⟨_, rfl⟩
        rw [← hB] at h1 h2 hp hl
        unfold parR at h1 h2 hp
        split at hp
        · cases hp
        · rename_i hg
          rw [if_neg hg] at h1 h2
          simp only [Bool.or_eq_true, not_or, Bool.not_eq_true, Bool.not_eq_false', List.isEmpty_iff, decide_eq_true_eq] at hg
          obtain ⟨⟨g1, g2⟩, g3⟩ := hg
          have hgot := end_got hf g1 g2
          dsimp only at h1 h2
          rw [h1, h2] at hgot g3
          have hok := ok_of g3
          have hfit := got_fit hgot hl
          have hbody := hgot.body
          rw [bodyY_ok hok] at hbody
          have hbl2 := body_len hok
          have hBl : (B.length : Int) = m := by rw [hB, List.length_take, List.length_drop]; omega
          have hrest : restN p xs = m := by rw [← hbl2, hbody, hBl]
          refine ⟨b, r, m, u, hs, hrd, hok, hfit, hrest, rfl, hm0, hu1, hle, ?_, by omega, by have := hgot.ty; omega⟩
          unfold encL
          rw [hrest, hbody, hB, hgot.flags, hgot.ty]
          rw [show (b.toNat : Int) / 16 * 16 + (b.toNat : Int) % 16 = (b.toNat : Int) by omega, toB_of]
      · simp only [Prod.mk.injEq] at h
        exact absurd h.2.2.2 (by decide)
  · rename_i h0
    simp only [Prod.mk.injEq] at h
    exact absurd h.2.2.2 h0
/-! A CONNECT of another level, of another protocol -/
theorem con_name {s : Ps} (h : (psCon s).f = false) : (psName s).f = false := by
  unfold psCon at h
  obtain ⟨_, _, f6, _⟩ := login_ok h
  obtain ⟨_, _, f5, _⟩ := will_ok f6
  have f5' : gtF (psKeep (psFlag (psLevel (psName s)))).f (getR (psKeep (psFlag (psLevel (psName s)))).l) = false := f5
  obtain ⟨f4, _, _⟩ := tx_ok f5'
  have f4' : woF (psFlag (psLevel (psName s))).l (psFlag (psLevel (psName s))).f = false := f4
  obtain ⟨f3, _⟩ := wo_ok f4'
  obtain ⟨f2, _⟩ := flag_ok f3
  have f2' : byF (psName s).l (psName s).f = false := f2
  exact (by_ok f2').1
theorem oth_yes (v : Int) (t : List UInt8) (c : Int) (hc : c / 16 = 1) (h0 : 0 ≤ v) (h1 : v ≤ 255) (h4 : v ≠ 4) : othR c (fieldL nameL ++ (toB v :: t)) = (v, true) := by
  obtain ⟨k1, k2, _⟩ := tx_field nameL (toB v :: t) false name_val
  obtain ⟨j1, j2⟩ := by_byte v t false h0 (by omega)
  unfold othR
  rw [if_pos hc, k1, k2, if_pos rfl, j1, j2, if_neg (by simp [h4])]
theorem name_no {m t : List UInt8} (hm : m.length = 6) (hn : m ≠ fieldL nameL) : gtV (getR (m ++ t)) ≠ nameL := by
  intro h
  unfold gtV at h
  split at h
  · rename_i h0
    obtain ⟨_, h2⟩ := getR_ok (l := m ++ t) (x := (getR (m ++ t)).1) (n := (getR (m ++ t)).2.1) (by rw [← h0])
    obtain ⟨h3, _⟩ := getD_ok h2
    rw [h] at h3
    exact hn (List.append_inj h3 (by rw [hm]; decide)).1
  · exact absurd h (by decide)
theorem dec_level (c v w : Int) (t : List UInt8) (h0 : 0 ≤ c) (h1 : c < 256) (hf : firB c = true) (hc : c / 16 = 1) (hv : ((fieldL nameL ++ (toB w :: t)).length : Int) = v) (hv1 : v ≤ 268435455) (w0 : 0 ≤ w) (w1 : w ≤ 255) (w4 : w ≠ 4) :
    decR (toB c :: (lenL 3 v ++ (fieldL nameL ++ (toB w :: t)))) = ((zPk.s_ty 1).s_level w, [], 1 + sizeF v + v, 0) := by
  have hcut := cut_of c v (fieldL nameL ++ (toB w :: t)) [] h0 h1 hf hv hv1
  rw [List.append_nil] at hcut
  unfold decR
  rw [hcut, byV_toB _ _ h0 h1, if_pos rfl]
  dsimp only
  rw [oth_yes w t c hc w0 w1 w4, if_pos rfl]
theorem dec_noname (c v : Int) (m t : List UInt8) (h0 : 0 ≤ c) (h1 : c < 256) (hf : firB c = true) (hc : c / 16 = 1) (hm : m.length = 6) (hn : m ≠ fieldL nameL) (hv : ((m ++ t).length : Int) = v) (hv1 : v ≤ 268435455) :
    decR (toB c :: (lenL 3 v ++ (m ++ t))) = (zPk, [], 0, 4) := by
  have hcut := cut_of c v (m ++ t) [] h0 h1 hf hv hv1
  rw [List.append_nil] at hcut
  have hno := name_no (t := t) hm hn
  have ho : othR c (m ++ t) = (0, false) := by unfold othR; rw [if_pos hc, if_neg hno]
  have hp : parR c (m ++ t) = (zPk, [], false) := by
    unfold parR
    rw [if_pos]
    have : (endP c (m ++ t)).f = true := by
      cases hb : (endP c (m ++ t)).f with
      | true => rfl
      | false =>
        exfalso
        unfold endP at hb
        rw [hc] at hb
        have hb' : (psCon ⟨m ++ t, false, zPk.s_ty 1⟩).f = false := hb
        have hb2 := con_name hb'
        unfold psName at hb2
        rw [if_neg hno] at hb2
        cases hb2
    rw [this]
    rfl
  unfold decR
  rw [hcut, byV_toB _ _ h0 h1, if_pos rfl]
  dsimp only
  rw [ho, hp, if_neg (by simp), if_neg (by simp)]
end Go.Proofs.YtncgkkhpcgdcaaaDoor
