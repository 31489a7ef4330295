/-
  ReadRow: the bytes of packets in a row, each with its length's bytes longer, or not.
-/
import Derived.Test.YtangnkhehajikaaGreatDoorRdBack
import Derived.Test.YtangnkhehajikaaGreatDoorWrD
set_option linter.unusedSimpArgs false
set_option linter.unusedVariables false
namespace Go.Proofs.YtangnkhehajikaaGreatDoor
open Go.RowKit
set_option maxRecDepth 100000
namespace lawReadRow
/-- A packet's bytes; with 'lg', its length in two bytes where one does. -/
def lngP (lg : Bool) (x : PX) : List UInt8 :=
  if lg && decide (restN x.1 x.2 < 128) then toB (x.1.ty * 16 + flagsN x.1) :: toB (128 + restN x.1 x.2) :: toB 0 :: bodyL x.1 x.2 else encP x
theorem cut_gen (c v : Int) (u : Nat) (L X t : List UInt8) (h0 : 0 ≤ c) (h1 : c < 256) (hf : firB c = true) (hv : (X.length : Int) = v) (hL : L.length = u) (hr : rdR (L ++ (X ++ t)) = (v, (u : Int), 0)) : cutR (toB c :: (L ++ (X ++ t))) = (X, 1 + u + v, 0) := by
  rw [cut_cons, toB_toNat c h0 h1, if_pos hf, hr, if_pos rfl]
  dsimp only
  rw [if_neg (by simp only [List.length_append]; omega), show ((u : Int)).toNat = L.length by omega, List.drop_left, show v.toNat = X.length by omega, List.take_left]
theorem lng_facts (lg : Bool) (x : PX) (h : okB x = true) (hf : Fit x.1 x.2) (h1 : totB x.1 x.2 ≤ 10000) (h2 : x.2.length ≤ 100) :
    2 ≤ (lngP lg x).length ∧ (lngP lg x).length ≤ 12000 ∧ ∀ t, decR (lngP lg x ++ t) = (x.1, x.2, ((lngP lg x).length : Int), 0) ∧ (cutR (lngP lg x ++ t)).1.length ≤ 90000 := by
  have hO := okB_ok h
  have hb := body_le hO
  have he := enc_len hO
  have hs := sizeF_bd (restN x.1 x.2)
  have hlo := hO.lo
  have hbl := body_len hO
  obtain ⟨c0, c1, c2, c3, c4⟩ := head_bd hO hf.num'
  by_cases hc : (lg && decide (restN x.1 x.2 < 128)) = true
  · have hl : lngP lg x = toB (x.1.ty * 16 + flagsN x.1) :: ([toB (128 + restN x.1 x.2), toB 0] ++ bodyL x.1 x.2) := by unfold lngP; rw [if_pos hc]; rfl
    simp only [Bool.and_eq_true, decide_eq_true_eq] at hc
    have hlen : (lngP lg x).length = 3 + (bodyL x.1 x.2).length := by rw [hl]; simp only [List.length_cons, List.length_append, List.length_nil]; omega
    refine ⟨by omega, by omega, fun t => ?_⟩
    have hr : rdR ([toB (128 + restN x.1 x.2), toB 0] ++ (bodyL x.1 x.2 ++ t)) = (restN x.1 x.2, ((2 : Nat) : Int), 0) := by
      have hx := rdL_enc 1 3 (restN x.1 x.2) 0 1 0 (bodyL x.1 x.2 ++ t) (by omega) hlo (by have : (128 : Int) ^ (1 + 1) = 16384 := by decide
                                                                                           omega)
      have hE : encF 1 (restN x.1 x.2) = [toB (128 + restN x.1 x.2), toB 0] := by
        unfold encF encF
        rw [show restN x.1 x.2 % 128 = restN x.1 x.2 by omega, show restN x.1 x.2 / 128 = 0 by omega]
      rw [hE] at hx
      unfold rdR
      rw [hx]
      simp
    have hcut := cut_gen (x.1.ty * 16 + flagsN x.1) (restN x.1 x.2) 2 [toB (128 + restN x.1 x.2), toB 0] (bodyL x.1 x.2) t c0 c1 c4 hbl rfl hr
    have hE2 : lngP lg x ++ t = toB (x.1.ty * 16 + flagsN x.1) :: ([toB (128 + restN x.1 x.2), toB 0] ++ (bodyL x.1 x.2 ++ t)) := by rw [hl]; simp
    rw [hE2, hcut]
    refine ⟨?_, by show (bodyL x.1 x.2).length ≤ 90000; omega⟩
    unfold decR
    rw [hcut, byV_toB _ _ c0 c1, if_pos rfl]
    dsimp only
    rw [oth_no hO _ c2, par_back hO hf.num' _ c2 c3, if_neg (by simp), if_pos rfl]
    have : 1 + ((2 : Nat) : Int) + restN x.1 x.2 = ((lngP lg x).length : Int) := by omega
    rw [this]
  · have hl : lngP lg x = encL x.1 x.2 := by unfold lngP encP; rw [if_neg hc]
    rw [hl]
    have hfa := enc_facts hO hf h1 h2 rfl
    exact ⟨hfa.2.1, by omega, fun t => hfa.2.2.1 t⟩
/-- All of a row. -/
def lngs (lg : Bool) (ps : List PX) : List UInt8 := ps.flatMap (lngP lg)
theorem lngs_snoc (lg : Bool) (ps : List PX) (k : Nat) (x : PX) (hx : ps[k]? = some x) : lngs lg (ps.take (k + 1)) = lngs lg (ps.take k) ++ lngP lg x := by
  unfold lngs
  rw [List.take_add_one, hx]; simp
theorem lngs_drop (lg : Bool) (ps : List PX) (k : Nat) (x : PX) (hx : ps[k]? = some x) : lngs lg (ps.drop k) = lngP lg x ++ lngs lg (ps.drop (k + 1)) := by
  obtain ⟨h1, h2⟩ := List.getElem?_eq_some_iff.1 hx
  unfold lngs
  rw [List.drop_eq_getElem_cons h1, h2, List.flatMap_cons]
theorem lngs_len (lg : Bool) (ps : List PX) (h : ∀ x ∈ ps, okB x = true ∧ Fit x.1 x.2 ∧ totB x.1 x.2 ≤ 10000 ∧ x.2.length ≤ 100) : (lngs lg ps).length ≤ 12000 * ps.length := by
  induction ps with
  | nil => simp [lngs]
  | cons x r ih =>
    have h1 := ih (fun y hy => h y (by simp [hy]))
    obtain ⟨a, b, c, d⟩ := h x (by simp)
    have h2 := (lng_facts lg x a b c d).2.1
    unfold lngs at h1 ⊢
    rw [List.flatMap_cons, List.length_append, List.length_cons]
    omega
/-- What stands in a packet's bytes where the length is one byte. -/
theorem enc_one {x : PX} (h : okB x = true) (hf : Fit x.1 x.2) (hv : restN x.1 x.2 < 128) : ∃ b, (∀ h0 : 1 < (ByteArray.mk (encP x).toArray).size, (ByteArray.mk (encP x).toArray)[1]'h0 = b) ∧ (b.toNat : Int) = restN x.1 x.2 ∧ (∀ y, (encP x).take 1 ++ ([y, toB 0] ++ (encP x).drop 2) = toB (x.1.ty * 16 + flagsN x.1) :: y :: toB 0 :: bodyL x.1 x.2) := by
  have hO := okB_ok h
  have hlo := hO.lo
  have hE : encP x = toB (x.1.ty * 16 + flagsN x.1) :: toB (restN x.1 x.2) :: bodyL x.1 x.2 := by
    unfold encP encL
    rw [lenL_small _ _ hv]; rfl
  refine ⟨toB (restN x.1 x.2), fun h0 => ?_, toB_toNat _ hlo (by omega), fun y => by rw [hE]; rfl⟩
  have : ∀ T : List UInt8, T = toB (x.1.ty * 16 + flagsN x.1) :: toB (restN x.1 x.2) :: bodyL x.1 x.2 → ∀ h0 : 1 < (ByteArray.mk T.toArray).size, (ByteArray.mk T.toArray)[1]'h0 = toB (restN x.1 x.2) := by intro T e h1; subst e; rfl
  exact this _ hE h0
theorem conv_cell2 {P : Program} {T E S : TypeId} (hT : P.underlying T = some (.slice E)) (hE : P.underlying E = some (.int .u8)) (hS : P.underlying S = some .string) (w : World) (g : Nat) (x y : Int) (h0 : 0 ≤ x) (h1 : x < 256) (k0 : 0 ≤ y) (k1 : y < 256)
    (h : w.cell? ⟨g, 0, none⟩ = some (.int .u8 x)) (h' : w.cell? ⟨g, 1, none⟩ = some (.int .u8 y)) : (convert T S (.slice (some ⟨g, 0, none⟩) 2 2)).run P w = .ok (.string ⟨[toB x, toB y].toArray⟩) w := by
  refine run_convert_bytes_back w T S E ⟨g, 0, none⟩ 2 [toB x, toB y] hT hE hS (fun j hj => ?_)
  have hadd : (⟨g, 0, none⟩ : Addr).add j = ⟨g, j, none⟩ := by unfold Addr.add; split <;> simp_all
  rw [hadd]
  match j, hj with
  | 0, _ =>
    rw [h]
    show some (Value.int .u8 x) = some (Value.int .u8 ((toB x).toNat : Int))
    rw [toB_toNat x h0 h1]
  | 1, _ =>
    rw [h']
    show some (Value.int .u8 y) = some (Value.int .u8 ((toB y).toNat : Int))
    rw [toB_toNat y k0 k1]
  | j + 2, hj => simp at hj; omega
end lawReadRow
end Go.Proofs.YtangnkhehajikaaGreatDoor
