/-
  FrFacts, FrGreat, FrUsed, FrStuck in one. (By tools/merge.py.)
-/
import Derived.Test.YtncgkkhpcgdcaaaDoorFrMath
import Derived.Test.YtncgkkhpcgdcaaaDoorKit
import Derived.Test.YtncgkkhpcgdcaaaDoorWrD
import Derived.Test.YtncgkkhpcgdcaaaDoorFrLaw
set_option linter.unusedSimpArgs false
set_option linter.unusedVariables false
/-
  frame: facts of what is told, whatever the pieces.
-/
namespace Go.Proofs.YtncgkkhpcgdcaaaDoor
set_option maxRecDepth 100000
section
variable {m : Int}
theorem dr_facts (hm : m ≤ 65536) : ∀ (k : Nat) (b : List UInt8), b.length < k →
    ((drR m b).2.2 = 0 → ∀ x ∈ (drR m b).1, x.2 = 0) ∧ ((drR m b).2.2 ≠ 0 → (∃ T0, (drR m b).1 = T0 ++ [((zPk, []), (drR m b).2.2)] ∧ ∀ x ∈ T0, x.2 = 0) ∧ ((drR m b).2.2 = 3 ∨ (drR m b).2.2 = 4) ∧ (drR m b).2.1 = []) ∧ ∀ x ∈ (drR m b).1, x.1.2.length ≤ 50000
  | 0, b, h => by omega
  | k + 1, b, hk => by
    rcases dc_any m b hm with h1 | ⟨e, h1, he⟩ | ⟨p, xs, n, h1, h2, h3, h4⟩
    · rw [dr_none h1]; simp
    · rw [dr_err h1 (by omega)]
      refine ⟨fun h => by dsimp only at h; omega, fun _ => ⟨⟨[], rfl, fun x hx => by cases hx⟩, he, rfl⟩, fun x hx => ?_⟩
      simp only [List.mem_singleton] at hx
      rw [hx]
      simp
    · have hl : (b.drop n).length = b.length - n := List.length_drop
      obtain ⟨i1, i2, i3⟩ := dr_facts hm k (b.drop n) (by omega)
      have hxs : xs.length ≤ 50000 := by
        rcases h4 with ⟨v, _, rfl, _⟩ | ⟨_, hf, _⟩
        · simp
        · exact hf.num
      rw [dr_some hm h1 (by omega) h3]
      dsimp only
      refine ⟨fun h x hx => ?_, fun h => ?_, fun x hx => ?_⟩
      · rcases List.mem_cons.1 hx with rfl | hx
        · rfl
        · exact i1 h x hx
      · obtain ⟨⟨T0, j1, j2⟩, j3⟩ := i2 h
        refine ⟨⟨((p, xs), 0) :: T0, by rw [j1]; rfl, fun x hx => ?_⟩, j3⟩
        rcases List.mem_cons.1 hx with rfl | hx
        · rfl
        · exact j2 x hx
      · rcases List.mem_cons.1 hx with rfl | hx
        · exact hxs
        · exact i3 x hx
/-- What was told of the bytes s, and what is left of them: the bytes b, and the error f. -/
structure Inv (m : Int) (s : List UInt8) (T : List TX) (b : List UInt8) (f : Int) : Prop where
  go : f = 0 → ∀ t, drR m (s ++ t) = (T ++ (drR m (b ++ t)).1, (drR m (b ++ t)).2)
  stop : f ≠ 0 → b = [] ∧ (∃ T0, T = T0 ++ [((zPk, []), f)]) ∧ ∀ t, drR m (s ++ t) = (T, [], f)
  ok : f = 0 → ∀ x ∈ T, x.2 = 0
  len : 2 * T.length + b.length ≤ s.length + 2 ∧ (f = 0 → 2 * T.length + b.length ≤ s.length)
  sub : ∀ x ∈ T, x.1.2.length ≤ 50000
theorem Inv.nil (m : Int) : Inv m [] [] [] 0 := ⟨fun _ t => rfl, fun h => absurd rfl h, fun _ x hx => (by cases hx), by simp, fun x hx => (by cases hx)⟩
theorem Inv.push {s T b} (h : Inv m s T b 0) (x : List UInt8) : Inv m (s ++ x) T (b ++ x) 0 :=
  ⟨fun _ t => by rw [List.append_assoc, h.go rfl, List.append_assoc], fun h => absurd rfl h, h.ok, by have := h.len; simp only [List.length_append]; exact ⟨by omega, fun _ => by have := this.2 rfl; omega⟩, h.sub⟩
theorem dr_lens (hm : m ≤ 65536) : ∀ (k : Nat) (b : List UInt8), b.length < k → 2 * (drR m b).1.length + (drR m b).2.1.length ≤ b.length + 2 ∧ ((drR m b).2.2 = 0 → 2 * (drR m b).1.length + (drR m b).2.1.length ≤ b.length)
  | 0, b, h => by omega
  | k + 1, b, hk => by
    rcases dc_any m b hm with h1 | ⟨e, h1, he⟩ | ⟨p, xs, n, h1, h2, h3, h4⟩
    · rw [dr_none h1]; simp
    · rw [dr_err h1 (by omega)]; simp; omega
    · have hl : (b.drop n).length = b.length - n := List.length_drop
      obtain ⟨i1, i2⟩ := dr_lens hm k (b.drop n) (by omega)
      rw [dr_some hm h1 (by omega) h3]
      dsimp only
      rw [List.length_cons]
      exact ⟨by omega, fun h => by have := i2 h; omega⟩
theorem Inv.drain {s T b} (h : Inv m s T b 0) (hm : m ≤ 65536) : Inv m s (T ++ (drR m b).1) (drR m b).2.1 (drR m b).2.2 := by
  obtain ⟨i1, i2, i3⟩ := dr_facts hm (b.length + 1) b (by omega)
  obtain ⟨j1, j2⟩ := dr_lens hm (b.length + 1) b (by omega)
  have hl := h.len.2 rfl
  refine ⟨fun hf t => ?_, fun hf => ⟨(i2 hf).2.2, ?_, fun t => ?_⟩, fun hf x hx => ?_, ?_, fun x hx => ?_⟩
  · rw [h.go rfl, dr_app (b.length + 1) b t hm (by omega), if_pos hf]
    simp
  · obtain ⟨⟨T0, k1, _⟩, _⟩ := i2 hf
    exact ⟨T ++ T0, by rw [k1]; simp⟩
  · rw [h.go rfl, dr_app (b.length + 1) b t hm (by omega), if_neg hf]
    have := (i2 hf).2.2
    rw [← this]
  · rcases List.mem_append.1 hx with hx | hx
    · exact h.ok rfl x hx
    · exact i1 hf x hx
  · rw [List.length_append]
    exact ⟨by omega, fun hf => by have := j2 hf; omega⟩
  · rcases List.mem_append.1 hx with hx | hx
    · exact h.sub x hx
    · exact i3 x hx
/-- All is told. -/
theorem Inv.whole {s T b f} (h : Inv m s T b f) (hm : m ≤ 65536) (hd : f = 0 → (drR m b).1 = [] ∧ (drR m b).2 = (b, 0)) (t : List UInt8) (hf : f ≠ 0 ∨ t = []) : drR m (s ++ t) = (T, b, f) := by
  by_cases h0 : f = 0
  · subst h0
    have ht : t = [] := by rcases hf with h1 | h1; exact absurd rfl h1; exact h1
    subst ht
    rw [h.go rfl, List.append_nil, (hd rfl).1, (hd rfl).2]
    simp
  · obtain ⟨h1, _, h2⟩ := h.stop h0
    rw [h2, h1]
/-- What is drained is drained. -/
theorem dr_again (hm : m ≤ 65536) : ∀ (k : Nat) (b : List UInt8), b.length < k → (drR m b).2.2 = 0 → drR m (drR m b).2.1 = ([], (drR m b).2.1, 0)
  | 0, b, h, _ => by omega
  | k + 1, b, hk, h0 => by
    rcases dc_any m b hm with h1 | ⟨e, h1, he⟩ | ⟨p, xs, n, h1, h2, h3, h4⟩
    · rw [dr_none h1]; exact dr_none h1
    · rw [dr_err h1 (by omega)] at h0; dsimp only at h0; omega
    · have hl : (b.drop n).length = b.length - n := List.length_drop
      rw [dr_some hm h1 (by omega) h3] at h0 ⊢
      exact dr_again hm k (b.drop n) (by omega) h0
end
end Go.Proofs.YtncgkkhpcgdcaaaDoor

/-
  frame's statements: Great.
-/
namespace Go.Proofs.YtncgkkhpcgdcaaaDoor
open Go.RowKit
set_option maxRecDepth 100000
/-- What Great answers. -/
def FGP (w : World) (ss : List (List UInt8)) (n : Nat) (e : Ending) (w' : World) : Prop := ∃ r, e = .returned (.bool r) ∧ w' = w ∧ (r = false → ss.flatten.length ≤ 20000 ∧ n ≤ 200)
/-- Great: at most 200 pieces, of 20000 bytes together. -/
theorem fgreat_any (A : Option Addr) (n c : Nat) (ss : List (List UInt8)) (w : World) (hs : Strs w A n ss) (hl : ∀ x ∈ ss, x.length ≤ 9223372036854775807) (hn : n ≤ 9223372036854775807) :
    Calls Tryd.prog 14 #[.slice A n c] w fun e w' => FGP w ss n e w' := by
  have HS := Lib.hid hs
  have HL := Lib.hid hl
  have hlen := Lib.hid hs.len
  clear hs hl
  go_enter Tryd.func14, Tryd.ntmps14
  go_wp2_with fail
  go_loopw [3, 4] (fun l i wr => ∃ k q : Nat, l = .int .i64 q ∧ i = .int .i64 k ∧ k ≤ n ∧ wr = w ∧ Hid (q + (ss.take k).flatten.length = 20000)) (fun _ i _ => n - (intOf i).toNat)
  case atStart => exact ⟨0, 20000, rfl, rfl, by omega, rfl, by show _ = _; simp⟩
  case round =>
    obtain ⟨k, q, rfl, rfl, hk, rfl, hq⟩ := hrel
    by_cases hlt : k < n
    · have hlt2 : (k : Int) < (n : Int) := by omega
      have k0 : (0 : Int) ≤ (k : Int) := by omega
      obtain ⟨b, off, x, rfl, hx, hcell⟩ := HS.out.at_ hlt
      have hxl := HL.out x (List.mem_of_getElem? hx)
      have HT : Hid ((ss.take (k + 1)).flatten.length = (ss.take k).flatten.length + x.length) := by show _ = _; rw [List.take_add_one, hx]; simp
      clear hx
      by_cases hg : q < x.length
      · have hd : decide ((q : Int) < (x.length : Int)) = true := by simp; omega
        go_wp2_with fail
        go_ret
        exact ⟨true, rfl, rfl, fun h => by cases h⟩
      · have hd : decide ((q : Int) < (x.length : Int)) = false := by simp; omega
        have hq2 := hq.out
        have hq20 : q ≤ 20000 := by omega
        obtain ⟨q2, hq3⟩ : ∃ q2 : Nat, q2 = q - x.length := ⟨_, rfl⟩
        have hqI : (q : Int) - (x.length : Int) = (q2 : Int) := by omega
        have hw : IntKind.i64.wrap (q2 : Int) = q2 := IntWalk.i64_in _ (by omega)
        have HN : Hid (q2 + (ss.take (k + 1)).flatten.length = 20000) := by show _ = _; rw [HT.out]; omega
        clear hq2 hq hq3 HT
        go_wp2_with fail
        clear hw
        go_roundw
        case rel => exact ⟨k + 1, q2, by go_num, by go_num, by omega, trivial, HN⟩
        case measure => simp [intOf]; omega
    · have hge : ¬ (k : Int) < (n : Int) := by omega
      have hke : ss.take k = ss := List.take_of_length_le (by rw [hlen.out]; omega)
      have HQ := Lib.hid hq.out
      rw [hke] at HQ
      clear hq hke
      cases hd : decide (200 < (n : Int)) with
      | true =>
        go_wp2_with fail
        go_ret
        exact ⟨true, ret_bool (by simp), rfl, fun h => by cases h⟩
      | false =>
        go_wp2_with fail
        go_ret
        exact ⟨false, ret_bool (by simp), rfl, fun h => ⟨by have := HQ.out; omega, by simp at hd; omega⟩⟩
end Go.Proofs.YtncgkkhpcgdcaaaDoor

/-
  FrameStuck: how many bytes the packets have that are told.
-/
namespace Go.Proofs.YtncgkkhpcgdcaaaDoor
set_option maxRecDepth 100000
theorem siz_ok {p : Pk} {xs : List (List UInt8 × Int)} (h : Ok p xs) : sizR p xs = ((encL p xs).length : Int) := by
  unfold sizR
  rw [if_pos h.lo, enc_len h]
theorem siz_level (v : Int) (h4 : v ≠ 4) : sizR ((zPk.s_ty 1).s_level v) [] = 0 := by
  unfold sizR
  rw [if_neg]
  intro h
  have ho := ok_of h
  have := ho.con rfl
  simp only [conR, Bool.and_eq_true, beq_iff_eq] at this
  exact h4 this.1
theorem siz_nn (p : Pk) (xs : List (List UInt8 × Int)) : 0 ≤ sizR p xs := by
  unfold sizR
  split
  · have := sizeF_bd (restN p xs); omega
  · omega
def usX (x : TX) : Int := if x.2 = 0 ∧ x.1.1.level ≠ 3 then sizR x.1.1 x.1.2 else 0
def usT : List TX → Int
  | [] => 0
  | x :: r => usX x + usT r
theorem usX_nn (x : TX) : 0 ≤ usX x := by
  unfold usX
  split
  · exact siz_nn _ _
  · omega
theorem usT_nn : ∀ T, 0 ≤ usT T
  | [] => Int.le_refl _
  | x :: r => by have := usX_nn x; have := usT_nn r; simp only [usT]; omega
theorem usT_app : ∀ T U, usT (T ++ U) = usT T + usT U
  | [], U => by simp [usT]
  | x :: r, U => by simp only [List.cons_append, usT, usT_app r U]; omega
theorem usT_take (T : List TX) (k : Nat) : usT (T.take k) ≤ usT T := by
  have h := usT_app (T.take k) (T.drop k)
  rw [List.take_append_drop] at h
  have := usT_nn (T.drop k)
  omega
theorem usT_snoc (T : List TX) (k : Nat) (x : TX) (h : T[k]? = some x) : usT (T.take (k + 1)) = usT (T.take k) + usX x := by
  rw [List.take_add_one, h, usT_app]
  simp [usT]
theorem dr_used {m : Int} (hm : m ≤ 65536) : ∀ (k : Nat) (b : List UInt8), b.length < k → usT (drR m b).1 + (drR m b).2.1.length ≤ b.length ∧ ∀ x ∈ (drR m b).1, Fit x.1.1 x.1.2
  | 0, b, h => by omega
  | k + 1, b, hk => by
    rcases dc_any m b hm with h1 | ⟨e, h1, he⟩ | ⟨p, xs, n, h1, h2, h3, h4⟩
    · rw [dr_none h1]
      exact ⟨by simp [usT], fun x hx => by cases hx⟩
    · rw [dr_err h1 (by omega)]
      have he0 : e ≠ 0 := by omega
      refine ⟨by simp [usT, usX, he0], fun x hx => ?_⟩
      simp only [List.mem_singleton] at hx
      rw [hx]
      exact fit_z
    · have hl : (b.drop n).length = b.length - n := List.length_drop
      obtain ⟨i1, i2⟩ := dr_used hm k (b.drop n) (by omega)
      rw [dr_some hm h1 (by omega) h3]
      dsimp only
      rw [usT]
      have hx : usX ((p, xs), 0) ≤ n ∧ Fit p xs := by
        rcases h4 with ⟨v, rfl, rfl, v0, v1, v4⟩ | ⟨ho, hf, hle⟩
        · refine ⟨?_, fit_level v v0 v1⟩
          unfold usX
          split
          · rw [siz_level v v4]; omega
          · omega
        · refine ⟨?_, hf⟩
          unfold usX
          split
          · rw [siz_ok ho]; omega
          · omega
      refine ⟨by omega, fun x hx2 => ?_⟩
      rcases List.mem_cons.1 hx2 with rfl | hx2
      · exact hx.2
      · exact i2 x hx2
end Go.Proofs.YtncgkkhpcgdcaaaDoor

/-
  FrameStuck.
-/
namespace Go.Proofs.YtncgkkhpcgdcaaaDoor
open Go.RowKit
set_option maxRecDepth 100000
namespace lawFrameStuck
theorem flat_take (ss : List (List UInt8)) (k : Nat) (x : List UInt8) (h : ss[k]? = some x) : (ss.take (k + 1)).flatten = (ss.take k).flatten ++ x := by
  rw [List.take_add_one, h]; simp
theorem flat_le (ss : List (List UInt8)) (k : Nat) : (ss.take k).flatten.length ≤ ss.flatten.length := by
  conv => rhs; rw [← List.take_append_drop k ss]
  rw [List.flatten_append, List.length_append]
  omega
/-- One that was told: its cells. -/
theorem own_at {B : Nat} {w : World} {A : Option Addr} {q c k : Nat} {TT : List TX} (h : OwnD B w (.slice A q c) TT) (hq : TT.length = q) (hk : k < q) : ∃ b off x A' n' c', A = some ⟨b, off, none⟩ ∧ TT[k]? = some x ∧ off + k * 25 + 24 ≤ (rowAt w b).size ∧ (rowAt w b).extract (off + k * 25) (off + k * 25 + 24) = PkC x.1.1 A' n' c' ∧
    w.cell? ⟨b, off + k * 25 + 24, none⟩ = some (.int .i64 x.2) ∧ w.cell? ⟨b, off + k * 25 + 7, none⟩ = some (.int .u8 x.1.1.level) ∧ Subs w A' n' x.1.2 ∧ (A' = none → c' = 0) ∧ Tds w (some ⟨b, off + k * 25, none⟩) (q - k) (TT.drop k) ∧ ¬ c = k := by
  have hT := (h.tds' hq).1
  obtain ⟨bx, ox, x, B1, n1, d1, e, hxk, hbx, hsx, hex, hrx, hcx, hS1, hc1, _⟩ := hT.at_ hk
  have hcap : q ≤ c := by
    obtain ⟨L, h1, _⟩ := h
    rcases h1.2 with ⟨h2, h3⟩ | ⟨g, cap, cur, e2, _, _, h4, _⟩
    · rw [hq] at h3; omega
    · injection e2 with _ e3 e4
      rw [hq] at h4
      omega
  subst e
  refine ⟨bx, ox, x, B1, n1, d1, rfl, hxk, by omega, hex, hcx, ?_, hS1, hc1, hT.from_ k (by omega), by omega⟩
  rw [rowAt_cell (by omega)]
  have := PkC_7 (p := x.1.1) (A := B1) (n := n1) (c := d1)
  rw [← hex, Array.getElem?_extract, if_pos (by omega)] at this
  rw [← this]
set_option maxHeartbeats 8000000 in
theorem walk (w : World) (hG : Glo w) (most : Int) (hmo : (Lit.int .i64 most).wf = true) (A : Option Addr) (n c : Nat) (ss : List (List UInt8)) (hs : Strs w A n ss) (hn : n ≤ 9223372036854775807) (hl : Hid (∀ x ∈ ss, x.length ≤ 9223372036854775807))
    (mo : List UInt8) (hml : mo.length ≤ 9223372036854775807) :
    Calls Tryd.prog 5 #[.int .i64 most, .slice A n c, .string ⟨mo.toArray⟩] w fun e w' => e = .returned (.bool true) ∧ Below w.heap.size w w' := by
  have HGL := Lib.hid hG
  have HG : Hid (∀ w', Below w.heap.size w w' → Glo w') := fun w' h => hG.below h
  have HS := Lib.hid hs
  have hlen := Lib.hid hs.len
  clear hG hs hmo
  go_enter Tryd.func5, Tryd.ntmps5
  go_wp2_with fail
  refine (fgreat_any A n c ss _ HS.out hl.out hn).mono ?_
  rintro e w1 ⟨gr, rfl, rfl, hgr⟩
  cases gr with
  | true =>
    go_wp2_with fail
    refine (awake6_any _ HGL.out).mono ?_
    rintro e w2 ⟨rfl, hb2⟩
    go_wp2_with fail
    go_ret
    exact ⟨rfl, hb2⟩
  | false =>
    obtain ⟨hl20, hn200⟩ := hgr rfl
    clear hgr
    by_cases hmb : 20000 < mo.length
    · have hd : decide ((20000 : Int) < (mo.length : Int)) = true := by simp; omega
      go_wp2_with fail
      refine (awake6_any _ HGL.out).mono ?_
      rintro e w2 ⟨rfl, hb2⟩
      go_wp2_with fail
      go_ret
      exact ⟨rfl, hb2⟩
    have hd : decide ((20000 : Int) < (mo.length : Int)) = false := by simp; omega
    have hmo : mo.length ≤ 20000 := by omega
    clear hmb hml
    by_cases hmm : most < 16 ∨ 65536 < most
    · go_wp2_with fail
      refine (frNone _ most hmm).mono ?_
      rintro e w2 ⟨rfl, rfl⟩
      clear hmm
      go_wp2_with fail
      refine (awake6_any _ HGL.out).mono ?_
      rintro e w2 ⟨rfl, hb2⟩
      go_wp2_with fail
      go_ret
      exact ⟨rfl, hb2⟩
    · have hm0 : 16 ≤ most := by omega
      have hm1 : most ≤ 65536 := by omega
      clear hmm
      go_wp2_with fail
      refine (frNew _ most hm0 hm1).mono ?_
      rintro e w2 ⟨g1, rfl, hb2, _, hF2⟩
      have HF2 := Lib.hid hF2
      have HB2 := Lib.hid hb2
      clear hF2 hb2
      clear hd
      go_wp2_with fail
      go_loopw [8, 9] (fun z i wr => ∃ (k s : Nat) (o : Option Nat), z = .int .i64 s ∧ i = .int .i64 k ∧ k ≤ n ∧ Hid (s = (ss.take k).flatten.length) ∧ Hid (Fr w1.heap.size wr g1 o most (ss.take k).flatten 0) ∧ Hid (Below w1.heap.size w1 wr)) (fun _ i _ => n - (intOf i).toNat)
      case atStart => exact ⟨0, 0, none, rfl, rfl, by omega, by show _ = _; simp, by show Fr _ _ _ _ _ _ _; simpa using HF2.out, HB2.out⟩
      case round =>
        clear HF2 HB2
        obtain ⟨k, s, o, rfl, rfl, hk, hsl, HF, HB⟩ := hrel
        have hfl0 := flat_le ss k
        have HSL := hsl
        have hs20 : s ≤ 20000 := by rw [hsl.out]; omega
        by_cases hlt : k < n
        · have hlt2 : (k : Int) < (n : Int) := by omega
          have k0 : (0 : Int) ≤ (k : Int) := by omega
          obtain ⟨blk, off, x, hA, hx, hcell⟩ := (HS.out.below HB.out).at_ hlt
          subst hA
          have hfl1 := flat_le ss (k + 1)
          have HSN := Lib.hid (flat_take ss k x hx)
          rw [HSN.out, List.length_append, ← HSL.out] at hfl1
          obtain ⟨s2, hs2⟩ : ∃ s2 : Nat, s2 = s + x.length := ⟨_, rfl⟩
          have HS2 : Hid (s2 = (ss.take (k + 1)).flatten.length) := by show _ = _; rw [HSN.out, List.length_append, hs2, HSL.out]
          have z1 : (s : Int) + (x.length : Int) = (s2 : Int) := by omega
          have hz2 : s2 ≤ 20000 := by omega
          have HZW : Hid (IntKind.i64.wrap (s2 : Int) = s2) := IntWalk.i64_in _ (by omega)
          have HPL : Hid ((ss.take k).flatten.length + x.length ≤ 900000000) := by show _ ≤ _; rw [← HSL.out]; omega
          clear hx hfl1 hfl0 hs2 hsl
          go_wp2_with fail
          refine (frPush HF.out x HPL.out).mono ?_
          rintro e w4 ⟨rfl, o', hF4, hd4, _⟩
          rw [← HSN.out] at hF4
          have hc4 := (show Strs w1 _ n ss from HS.out).below (HF.out.step hd4 HB.out)
          have HB4 := Lib.hid (HF.out.step hd4 HB.out)
          have HF4 := Lib.hid hF4
          have hcell4 : w4.cell? ⟨blk, off + k, none⟩ = some (.string ⟨x.toArray⟩) := by
            obtain ⟨b9, off9, x9, e9, hx9, hc9⟩ := hc4.at_ hlt
            cases e9
            have hx8 : x9 = x := by
              have h8 := flat_take ss k x9 hx9
              rw [HSN.out] at h8
              exact (List.append_cancel_left h8).symm
            rw [← hx8]
            exact hc9
          have hzw := HZW.out
          clear hF4 hd4 hc4 hcell HB HF
          go_wp2_with fail
          clear hzw
          go_roundw
          case rel => exact ⟨k + 1, s2, o', by go_num, by go_num, by omega, HS2, HF4, HB4⟩
          case measure => simp [intOf]; omega
        · have hge : ¬ (k : Int) < (n : Int) := by omega
          have hke : ss.take k = ss := List.take_of_length_le (by rw [hlen.out]; omega)
          rw [hke] at HF HSL
          obtain ⟨T, b', f', hDR⟩ : ∃ T b' f', drR most ss.flatten = (T, b', f') := ⟨_, _, _, rfl⟩
          have HDR := Lib.hid hDR
          obtain ⟨df1, df2, df3⟩ := dr_facts hm1 (ss.flatten.length + 1) ss.flatten (by omega)
          obtain ⟨du1, du2⟩ := dr_used hm1 (ss.flatten.length + 1) ss.flatten (by omega)
          obtain ⟨dl1, dl2⟩ := dr_lens hm1 (ss.flatten.length + 1) ss.flatten (by omega)
          rw [hDR] at df1 df2 df3 du1 du2 dl1 dl2
          dsimp only at df1 df2 df3 du1 du2 dl1 dl2
          have HD1 := Lib.hid df1
          have HD2 := Lib.hid df2
          have HU1 : Hid (usT T + (b'.length : Int) ≤ (s : Int)) := by show _ ≤ _; rw [HSL.out]; exact du1
          have HU2 := Lib.hid du2
          have HSB : Hid (∀ x ∈ T, x.1.2.length ≤ 1000000) := fun x hx => Nat.le_trans (df3 x hx) (by omega)
          obtain ⟨q, hq⟩ : ∃ q, q = T.length := ⟨_, rfl⟩
          have HQ : Hid (T.length = q) := hq.symm
          have hq11 : q ≤ 11000 := by omega
          have hb11 : b'.length ≤ 20002 := by omega
          have HFL : Hid (ss.flatten.length ≤ 20000) := hl20
          clear hDR df1 df2 df3 du1 du2 dl1 dl2 hke hlt hk hsl hfl0 hl20 hq
          go_wp2_with fail
          refine (drain_any HF.out HB.out.size (glo_b HG.out HB.out) (by have := HFL.out; omega) T b' f' (by rw [dn_zero]; exact HDR.out) (by rw [HQ.out]; omega)).mono ?_
          rintro e w3 ⟨A3, c3, o3, rfl, hO3, hF3, hd3, _⟩
          have HB3 := Lib.hid (HF.out.step hd3 HB.out)
          have HF3 := Lib.hid hF3
          have HO3 := Lib.hid (hO3.base HB.out.size)
          rw [HQ.out] at HO3 ⊢
          clear hO3 hF3 hd3 HF HB
          go_wp2_with fail
          go_loopw [11, 12] (fun z i wr => ∃ (k u : Nat), z = .int .i64 u ∧ i = .int .i64 k ∧ k ≤ q ∧ Hid ((u : Int) = usT (T.take k)) ∧ Hid (∀ x ∈ T.take k, x.2 = 0) ∧ Hid (OwnD w1.heap.size wr (.slice A3 q c3) T) ∧ Hid (Fr w1.heap.size wr g1 o3 most b' f') ∧ Hid (Below w1.heap.size w1 wr)) (fun _ i _ => q - (intOf i).toNat)
          case atStart => exact ⟨0, 0, rfl, rfl, by omega, rfl, by show ∀ x ∈ _, _; intro x hx; simp at hx, HO3, HF3, HB3⟩
          case round =>
            clear HO3 HF3 HB3 hge
            obtain ⟨k, u, rfl, rfl, hk, hu, hz, HO, HF, HB⟩ := hrel
            have hu20 : u ≤ 20000 := by have h1 := usT_take T k; have h2 := HU1.out; have h3 := hu.out; omega
            by_cases hlt : k < q
            · have hlt2 : (k : Int) < (q : Int) := by omega
              have k0 : (0 : Int) ≤ (k : Int) := by omega
              obtain ⟨blk, off, x, A', n', c', hA, hxk, hsz, hex, hce, hcl, hsub, _, htd, hck⟩ := own_at HO.out HQ.out hlt
              subst hA
              have HXK := Lib.hid hxk
              have HSUB := Lib.hid hsub
              have HTD := Lib.hid htd
              have HFX := Lib.hid (HU2.out x (List.mem_of_getElem? hxk))
              have HUS := Lib.hid (usT_snoc T k x hxk)
              obtain ⟨ev, hev⟩ : ∃ ev, ev = x.2 := ⟨_, rfl⟩
              rw [← hev] at hce
              have HEV := Lib.hid hev
              obtain ⟨lv, hlv⟩ : ∃ lv, lv = x.1.1.level := ⟨_, rfl⟩
              rw [← hlv] at hcl
              have HLV := Lib.hid hlv
              have HTZ : ev = 0 → Hid (∀ y ∈ T.take (k + 1), y.2 = 0) := by
                intro h0
                show ∀ y ∈ _, _
                intro y hy
                rw [List.take_add_one, HXK.out] at hy
                simp only [List.mem_append, Option.toList_some, List.mem_singleton] at hy
                rcases hy with hy | rfl
                · exact hz.out y hy
                · rw [← HEV.out]; exact h0
              have HTZH := Lib.hid HTZ
              clear hxk hsub htd hev hlv HTZ
              by_cases he0 : ev = 0
              · subst he0
                by_cases h3 : lv = 3
                · have hlb : (lv != 3) = false := by simp [h3]
                  have HU3 : Hid ((u : Int) = usT (T.take (k + 1))) := by
                    show _ = _
                    rw [HUS.out, ← hu.out]
                    unfold usX
                    rw [if_neg (by rw [← HLV.out]; simp [h3])]
                    omega
                  clear hu hz
                  go_wp2_with fail
                  go_roundw
                  case rel => exact ⟨k + 1, u, by go_num, by go_num, by omega, HU3, (by first | exact HTZH.out rfl | exact HTZH.out trivial), HO, HF, HB⟩
                  case measure => simp [intOf]; omega
                · have hlb : (lv != 3) = true := by simp [h3]
                  obtain ⟨v, hv⟩ : ∃ v, sizR x.1.1 x.1.2 = v := ⟨_, rfl⟩
                  have HV := Lib.hid hv
                  have hv0 := siz_nn x.1.1 x.1.2
                  rw [hv] at hv0
                  have hsn : usT (T.take (k + 1)) = u + v := by
                    rw [HUS.out, ← hu.out]
                    unfold usX
                    rw [if_pos ⟨by rw [← HEV.out], by rw [← HLV.out]; exact h3⟩, hv]
                  have hle := usT_take T (k + 1)
                  have hu1 := HU1.out
                  obtain ⟨u2, hu2⟩ : ∃ u2 : Nat, (u2 : Int) = u + v := ⟨u + v.toNat, by omega⟩
                  have HU3 : Hid ((u2 : Int) = usT (T.take (k + 1))) := by show _ = _; rw [hsn, hu2]
                  have hsum : (u : Int) + v = (u2 : Int) := hu2.symm
                  have HUW : Hid (IntKind.i64.wrap (u2 : Int) = u2) := IntWalk.i64_in _ (by omega)
                  have hGB := HG.out _ HB.out
                  clear hu hz hv hsn hle hu1 hu2 hv0
                  go_wp2_with fail
                  refine (size_eq x.1.1 A' n' c' x.1.2 v _ hGB HSUB.out HFX.out HV.out).mono ?_
                  rintro e w4 ⟨rfl, hb4⟩
                  have HO4 := Lib.hid (HO.out.more hb4)
                  have HF4 := Lib.hid (HF.out.below hb4)
                  have HB4 := Lib.hid (below_more HB.out hb4)
                  have hce4 := hb4.cell (World.block_lt_of_cell? _ _ hce)
                  rw [hce] at hce4
                  have hw4 := HUW.out
                  clear hb4 HO HF HB hce hcl hsz hex hGB
                  go_wp2_with fail
                  clear hw4
                  go_roundw
                  case rel => exact ⟨k + 1, u2, by go_num, by go_num, by omega, HU3, (by first | exact HTZH.out rfl | exact HTZH.out trivial), HO4, HF4, HB4⟩
                  case measure => simp [intOf]; omega
              · have hf0 : f' ≠ 0 := fun h => he0 (by rw [HEV.out]; exact HD1.out h x (List.mem_of_getElem? HXK.out))
                obtain ⟨⟨T0, hT0, hT0z⟩, hf34, hb0⟩ := HD2.out hf0
                have hkT : k = T0.length := by
                  by_cases h9 : k < T0.length
                  · exfalso
                    have h8 := HXK.out
                    rw [hT0, List.getElem?_append_left h9] at h8
                    exact he0 (by rw [HEV.out]; exact hT0z x (List.mem_of_getElem? h8))
                  · have h8 := HQ.out
                    rw [hT0, List.length_append, List.length_singleton] at h8
                    omega
                have hqk : q = k + 1 := by have h8 := HQ.out; rw [hT0, List.length_append, List.length_singleton] at h8; omega
                have hxf : x = ((zPk, []), f') := by
                  have h8 := HXK.out
                  rw [hT0, hkT, List.getElem?_append_right (Nat.le_refl _)] at h8
                  simpa using h8.symm
                have hevf : ev = f' := by rw [HEV.out, hxf]
                have hdrop : T.drop k = [((zPk, []), f')] := by rw [hT0, hkT, List.drop_left]
                subst hevf
                rw [hdrop, show q - k = 1 by omega] at HTD
                have HF34 := Lib.hid hf34
                rw [hb0] at HF
                have HF0 := Lib.hid hf0
                have e0 : (ev == 0) = false := by simpa using he0
                have e1 : (ev != 0) = true := by simpa using he0
                clear hu hz hf0 hT0 hT0z hkT hxf hdrop hb0 hcl hsz hex HXK HUS HTZH he0 hf34
                go_wp2_with fail
                refine (frPushE HF.out HF0.out mo).mono ?_
                rintro e w4 ⟨rfl, rfl⟩
                go_wp2_with fail
                refine (drain_any HF.out HB.out.size (glo_b HG.out HB.out) (by simp) [((zPk, []), ev)] [] ev (by rw [dn_err _ _ _ HF0.out]) (by simp)).mono ?_
                rintro e w5 ⟨A5, c5, o5, rfl, hO5, hF5, hd5, _⟩
                have HO5 := Lib.hid (HO.out.keep (HF.out.keepD hd5))
                have HB5 := Lib.hid (HF.out.step hd5 HB.out)
                have HF5 := Lib.hid hF5
                have HT5 := Lib.hid (hO5.tds' rfl).1
                obtain ⟨blk2, off2, x2, A2, n2, c2, hA2, hxk2, _, _, hce5, _, _, _, htd5, _⟩ := own_at HO5.out HQ.out (show k < q by omega)
                cases hA2
                have hev2 : x2.2 = ev ∧ T.drop k = [((zPk, []), ev)] := by
                  obtain ⟨⟨T0, hT0, _⟩, _⟩ := HD2.out HF0.out
                  have hkT : k = T0.length := by have h8 := HQ.out; rw [hT0, List.length_append, List.length_singleton] at h8; omega
                  refine ⟨?_, by rw [hT0, hkT, List.drop_left]⟩
                  rw [hT0, hkT, List.getElem?_append_right (Nat.le_refl _)] at hxk2
                  simp at hxk2
                  rw [← hxk2]
                rw [hev2.1] at hce5
                rw [hev2.2, show q - k = 1 by omega] at htd5
                have HT6 := Lib.hid htd5
                have HCE5 := Lib.hid hce5
                have q1 : (q : Int) - 1 = (k : Int) := by omega
                have q2 : IntKind.i64.wrap (k : Int) = k := IntWalk.i64_in _ (by omega)
                have q3 : (k : Int) ≤ (q : Int) := by omega
                have q4 : q - k = 1 := by omega
                clear hO5 hF5 hd5 HO HF HB hce hev2 htd5 hxk2 hce5 HTD hqk
                go_wp2_with fail
                refine (frLeft' HF5.out (by simp)).mono ?_
                rintro e w6 ⟨rfl, hb6⟩
                have HB6 := Lib.hid (below_more HB5.out hb6)
                have HT56 := Lib.hid (HT5.out.below hb6)
                have HT66 := Lib.hid (HT6.out.below hb6)
                have hce6 := hb6.cell (World.block_lt_of_cell? _ _ HCE5.out)
                rw [HCE5.out] at hce6
                clear hb6 HB5 HT5 HT6 HF5
                go_wp2_with fail
                refine (tsame _ A5 _ 1 c5 _ [((zPk, []), ev)] HT56.out HT66.out (by omega) (by simp)).mono ?_
                rintro e w7 ⟨rfl, hb7⟩
                have HB7 := Lib.hid (below_more HB6.out hb7)
                have hce7 := hb7.cell (World.block_lt_of_cell? _ _ hce6)
                rw [hce6] at hce7
                clear hb7 HB6 HT56 HT66 hce6
                rcases HF34.out with h34 | h34
                · have e4 : (ev == 4) = false := by rw [h34]; rfl
                  have e3 : (ev == 3) = true := by rw [h34]; rfl
                  clear h34
                  go_wp2_with fail
                  refine (awake6_any _ (HG.out _ HB7.out)).mono ?_
                  rintro e w8 ⟨rfl, hb8⟩
                  go_wp2_with fail
                  go_ret
                  exact ⟨rfl, below_more HB7.out hb8⟩
                · have e4 : (ev == 4) = true := by rw [h34]; rfl
                  clear h34
                  go_wp2_with fail
                  refine (awake6_any _ (HG.out _ HB7.out)).mono ?_
                  rintro e w8 ⟨rfl, hb8⟩
                  go_wp2_with fail
                  go_ret
                  exact ⟨rfl, below_more HB7.out hb8⟩
            · have hge : ¬ (k : Int) < (q : Int) := by omega
              have hke : T.take k = T := List.take_of_length_le (by rw [HQ.out]; omega)
              rw [hke] at hu hz
              have hf0 : f' = 0 := by
                by_cases h : f' = 0
                · exact h
                · exfalso
                  obtain ⟨⟨T0, hT0, _⟩, _⟩ := HD2.out h
                  exact h (hz.out ((zPk, []), f') (by rw [hT0]; simp))
              subst hf0
              have hu1 := HU1.out
              rw [← hu.out] at hu1
              obtain ⟨d, hd⟩ : ∃ d : Nat, (d : Int) = (s : Int) - (u : Int) := ⟨s - u, by omega⟩
              have hsub : (s : Int) - (u : Int) = (d : Int) := hd.symm
              have HW1 : Hid (IntKind.i64.wrap (d : Int) = d) := IntWalk.i64_in _ (by omega)
              have hle : (b'.length : Int) ≤ (d : Int) := by omega
              have hled : decide ((b'.length : Int) ≤ (d : Int)) = true := by simpa using hle
              obtain ⟨t, ht⟩ : ∃ t : Nat, t = b'.length + mo.length := ⟨_, rfl⟩
              have hti : (b'.length : Int) + (mo.length : Int) = (t : Int) := by omega
              have HW2 : Hid (IntKind.i64.wrap (t : Int) = t) := IntWalk.i64_in _ (by omega)
              have HTT : Hid ((b' ++ mo).length = t) := by show _ = _; rw [List.length_append, ht]
              have hlen2 : b'.length ≤ d := by omega
              have hmo2 : b'.length + mo.length ≤ 900000000 := by omega
              have ht9 : t ≤ 900000000 := by omega
              have hb9 : b'.length ≤ 900000000 := by omega
              clear hke hlt hk hu hz hu1 hd ht
              go_wp2_with fail
              refine (frLeft' HF.out hb9).mono ?_
              rintro e w3 ⟨rfl, hb3⟩
              have HF3 := Lib.hid (HF.out.below hb3)
              have HB3 := Lib.hid (below_more HB.out hb3)
              clear hb3 HF HB
              go_wp2_with fail
              refine (frPush HF3.out mo hmo2).mono ?_
              rintro e w4 ⟨rfl, o', hF4, hd4, _⟩
              have HB4 := Lib.hid (HF3.out.step hd4 HB3.out)
              have HF4 := Lib.hid hF4
              have hw1 := HW1.out
              have hw2 := HW2.out
              clear hF4 hd4 HF3 HB3
              go_wp2_with fail
              refine (frLeft' HF4.out (by rw [HTT.out]; exact ht9)).mono ?_
              rintro e w5 ⟨rfl, hb5⟩
              rw [HTT.out]
              have HB5 := Lib.hid (below_more HB4.out hb5)
              clear hb5 HF4 HB4
              go_wp2_with fail
              refine (awake6_any _ (HG.out _ HB5.out)).mono ?_
              rintro e w6 ⟨rfl, hb6⟩
              go_wp2_with fail
              go_ret
              exact ⟨rfl, below_more HB5.out hb6⟩
end lawFrameStuck
end Go.Proofs.YtncgkkhpcgdcaaaDoor
