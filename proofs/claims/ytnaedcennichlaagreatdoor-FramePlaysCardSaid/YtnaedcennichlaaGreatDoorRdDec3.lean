/-
  read: parse, Decode.
-/
import Derived.Test.YtnaedcennichlaaGreatDoorRdDec2
set_option linter.unusedSimpArgs false
set_option linter.unusedVariables false
namespace Go.Proofs.YtnaedcennichlaaGreatDoor
open Go.RowKit
set_option maxRecDepth 100000
/-- A packet that is told, and a bool. -/
def PAI (w : World) (P : Pk) (X : List (List UInt8 × Int)) (r : Bool) (e : Ending) (w' : World) : Prop :=
  ∃ A c, e = .returned (.tuple #[.agg (PkC P A X.length c), .bool r]) ∧ Below w.heap.size w w' ∧ Subs w' A X.length X ∧ (A = none → c = 0) ∧ SubT w.heap.size w' A X.length
theorem pai_mk {w w' : World} {P : Pk} {X : List (List UInt8 × Int)} {r : Bool} {A : Option Addr} {c : Nat} (hb : Below w.heap.size w w') (hS : Subs w' A X.length X) (hc : A = none → c = 0) (ht : SubT w.heap.size w' A X.length) : PAI w P X r (.returned (.tuple #[.agg (PkC P A X.length c), .bool r])) w' := ⟨A, c, rfl, hb, hS, hc, ht⟩
theorem pai_no {w w' : World} (hb : Below w.heap.size w w') : PAI w zPk [] false (.returned (.tuple #[.agg (PkC zPk none 0 0), .bool false])) w' := ⟨none, 0, rfl, hb, Subs.nil _, fun _ => rfl, fun hn => absurd hn (Nat.lt_irrefl 0)⟩
theorem Subs.keepN {w w' : World} {A : Option Addr} {n : Nat} {xs : List (List UInt8 × Int)} (h : Subs w A n xs) (hs : w.heap.size ≤ w'.heap.size) (hk : 0 < n → ∀ b o, A = some ⟨b, o, none⟩ → b < w.heap.size → w'.heap[b]? = w.heap[b]?) : Subs w' A n xs :=
  ⟨h.1, fun hn => by
    obtain ⟨b, off, e, hlt, hc⟩ := h.2 hn
    have hr : rowAt w' b = rowAt w b := by unfold rowAt; rw [hk hn b off e hlt]
    exact ⟨b, off, e, by omega, fun j x hx => by rw [hr]; exact hc j x hx⟩⟩
/-- A block of packets is no block of Subs. -/
theorem subT_ne {B : Nat} {w : World} {A : Option Addr} {n g : Nat} {cs : Array Value} (h : SubT B w A n) (hg : w.heap[g]? = some (.cells cs 36 (0, 0))) : 0 < n → ∀ b o, A = some ⟨b, o, none⟩ → b ≠ g := by
  intro hn b o e e9
  obtain ⟨_, cur, hcur⟩ := h hn b o e
  rw [e9, hg] at hcur
  injection hcur with hcur
  injection hcur with _ h9 _
  revert h9
  decide
theorem subT_set {B : Nat} {w : World} {A : Option Addr} {n g : Nat} {cs cs' : Array Value} (h : SubT B w A n) (hg : w.heap[g]? = some (.cells cs 36 (0, 0))) : SubT B (w.setRow g cs') A n := fun hn b o e => by
  obtain ⟨hB9, cur, hcur⟩ := h hn b o e
  exact ⟨hB9, cur, (setRow_other w g b cs' (subT_ne h hg hn b o e)).trans hcur⟩
theorem subs_setT {B : Nat} {w : World} {A : Option Addr} {n g : Nat} {xs : List (List UInt8 × Int)} {cs cs' : Array Value} (h : Subs w A n xs) (ht : SubT B w A n) (hg : w.heap[g]? = some (.cells cs 36 (0, 0))) : Subs (w.setRow g cs') A n xs :=
  Subs.keepN h (by simp) (fun hn b o e _ => setRow_other _ _ _ _ (subT_ne ht hg hn b o e))
set_option maxHeartbeats 2000000 in
theorem parse_any (c : Int) (l : List UInt8) (w : World) (hG : Glo w) (h0 : 0 ≤ c) (h1 : c ≤ 255) (hf : firB c = true) (hl : l.length ≤ 90000) :
    Calls Tryz.prog 35 #[.int .u8 c, .string ⟨l.toArray⟩] w fun e w' => PAI w (parR c l).1 (parR c l).2.1 (parR c l).2.2 e w' := by
  have e1 : c.tdiv 16 = c / 16 := by rw [Int.tdiv_eq_ediv_of_nonneg h0]
  have e2 : c.tmod 16 = c % 16 := by rw [Int.tmod_eq_emod_of_nonneg h0]
  have hw1 : IntKind.u8.wrap (c / 16) = c / 16 := IntWalk.u8_in _ (by omega)
  have hw2 : IntKind.u8.wrap (c % 16) = c % 16 := IntWalk.u8_in _ (by omega)
  have hm : 0 ≤ c % 16 ∧ c % 16 ≤ 255 := by omega
  have hty := (fir_ty hf).1
  have HP : Hid (parR c l = if ((endP c l).f || !(endP c l).l.isEmpty) || !decide (0 ≤ restN (endP c l).p (endX c l)) then (zPk, [], false) else ((endP c l).p, endX c l, true)) := rfl
  have HGOT : Hid ((endP c l).f = false → (endP c l).l = [] → Fit (endP c l).p (endX c l)) := fun k1 k2 => got_fit (end_got hf k1 k2) hl
  have HG := Lib.hid hG
  have HX : Hid (psBody (zPk.s_ty (c / 16)).ty (c % 16) ⟨l, false, zPk.s_ty (c / 16)⟩ = endP c l ∧ psXs (zPk.s_ty (c / 16)).ty l false = endX c l) := ⟨rfl, rfl⟩
  obtain ⟨s, hs⟩ : ∃ s, s = endP c l := ⟨_, rfl⟩
  obtain ⟨X, hXX⟩ : ∃ X, X = endX c l := ⟨_, rfl⟩
  rw [← hs, ← hXX] at HP HGOT HX
  obtain ⟨k, hk⟩ : ∃ k, k = c / 16 := ⟨_, rfl⟩
  obtain ⟨m, hmm⟩ : ∃ m, m = c % 16 := ⟨_, rfl⟩
  rw [← hk] at e1 hw1 hty HX
  rw [← hmm] at e2 hw2 hm HX
  have hK0 := (((Kp.nil w).new (PkC zPk none 0 0) 36).new (Rw l false (PkC (zPk.s_ty k) none 0 0)) 96)
  simp only [World.size_alloc] at hK0
  clear hs hXX hk hmm hf hG h0 h1
  have hne : ∀ x ∈ [(w.heap.size, PkC zPk none 0 0, (36 : TypeId))], x.1 ≠ w.heap.size + 1 := by intro x hx; simp at hx; subst hx; show w.heap.size ≠ w.heap.size + 1; omega
  have hT : ∀ x ∈ [(w.heap.size, PkC zPk none 0 0, (36 : TypeId))], x.2.2 ≠ 42 := by intro x hx; simp at hx; subst hx; show (36 : TypeId) ≠ 42; decide
  cases hf : s.f with
  | true =>
    have HR : Hid (parR c l = (zPk, [], false)) := by show _ = _; rw [HP.out, hf]; rfl
    rw [HR.out]
    have HF := Lib.hid hf
    clear HR HP HGOT hf
    go_enter Tryz.func35, Tryz.ntmps35
    go_wp2_with fail
    refine (pRest hK0 hne (by decide) hT (by omega) m hm.1 hm.2 hty).mono ?_
    intro e w1 hP
    rw [HX.out.1, HX.out.2] at hP
    obtain ⟨rfl, A, c9, hK1, _⟩ := hP
    rw [HF.out] at hK1
    have a1r := hK1.row; have a1f := hK1.free; have a1c := hK1.cell; have a1l := hK1.lt; have a1z := hK1.froz
    have a2r := hK1.tail.row; have a2f := hK1.tail.free; have a2c := hK1.tail.cell; have a2l := hK1.tail.lt; have a2z := hK1.tail.froz
    have n1 : ¬ w.heap.size = w.heap.size + 1 := by omega
    go_wp2_with fail
    refine ret_pk2 4 5 w.heap.size zPk none 0 0 (.bool false) rfl rfl (by go_simp) rfl rfl ?_
    exact pai_no (hK1.swap.set (by intro x hx; simp at hx; subst hx; show w.heap.size + 1 ≠ w.heap.size; omega) _).below
  | false =>
    by_cases hle : s.l = []
    · have hlb : (s.l == []) = true := by rw [hle]; rfl
      have hfit := HGOT.out hf hle
      have HFIT := Lib.hid hfit
      have HE : Hid (s.l.isEmpty = true) := by show _ = _; rw [hle]; rfl
      clear hfit
      obtain ⟨r, hr⟩ : ∃ r, decide (0 ≤ restN s.p X) = r := ⟨_, rfl⟩
      have HRR := Lib.hid hr
      have HF := Lib.hid hf
      clear hle HGOT
      cases r with
      | true =>
        have HR : Hid (parR c l = (s.p, X, true)) := by show _ = _; rw [HP.out, hf, HE.out, hr]; rfl
        rw [HR.out]
        clear HR HP hf hr
        go_enter Tryz.func35, Tryz.ntmps35
        go_wp2_with fail
        refine (pRest hK0 hne (by decide) hT (by omega) m hm.1 hm.2 hty).mono ?_
        intro e w1 hP
        rw [HX.out.1, HX.out.2] at hP
        obtain ⟨rfl, A, c9, hK1, hS, hc9, hst9⟩ := hP
        rw [HF.out] at hK1
        have HS := Lib.hid hS
        have HC := Lib.hid hc9
        have HST := Lib.hid hst9
        clear hS hc9 hst9
        have a1r := hK1.row; have a1f := hK1.free; have a1c := hK1.cell; have a1l := hK1.lt; have a1z := hK1.froz
        have a2r := hK1.tail.row; have a2f := hK1.tail.free; have a2c := hK1.tail.cell; have a2l := hK1.tail.lt; have a2z := hK1.tail.froz
        have n1 : ¬ w.heap.size = w.heap.size + 1 := by omega
        go_wp2_with fail
        refine (right_eq s.p A X.length c9 X true _ (HG.out.below hK1.below) HS.out HFIT.out HRR.out).mono ?_
        rintro e w2 ⟨rfl, hb2⟩
        have hK2 := hK1.more hb2
        have hS2 := HS.out.below hb2
        have HS2 := Lib.hid hS2
        have HST2 : Hid (SubT w.heap.size w2 A X.length) := by
          show SubT _ _ _ _
          intro hn b o e
          obtain ⟨hB9, cur, hcur⟩ := HST.out hn b o e
          exact ⟨hB9, cur, (hb2.block b (Array.getElem?_eq_some_iff.1 hcur).1).trans hcur⟩
        have HROW := Lib.hid (hK2.rows (w.heap.size, PkC zPk none 0 0, 36) (by simp)).2
        clear a1r a1f a1c a1l a1z a2r a2f a2c a2l a2z hK1 hb2 hS2
        have a1r := hK2.row; have a1f := hK2.free; have a1c := hK2.cell; have a1l := hK2.lt; have a1z := hK2.froz
        have a2r := hK2.tail.row; have a2f := hK2.tail.free; have a2c := hK2.tail.cell; have a2l := hK2.tail.lt; have a2z := hK2.tail.froz
        go_wp2_with fail
        refine ret_pk2 4 5 w.heap.size s.p A X.length c9 (.bool true) rfl rfl (by go_simp) rfl rfl ?_
        exact pai_mk (hK2.swap.set (by intro x hx; simp at hx; subst hx; show w.heap.size + 1 ≠ w.heap.size; omega) _).below (subs_setT HS2.out HST2.out HROW.out) HC.out (subT_set HST2.out HROW.out)
      | false =>
        have HR : Hid (parR c l = (zPk, [], false)) := by show _ = _; rw [HP.out, hf, HE.out, hr]; rfl
        rw [HR.out]
        clear HR HP hf hr
        go_enter Tryz.func35, Tryz.ntmps35
        go_wp2_with fail
        refine (pRest hK0 hne (by decide) hT (by omega) m hm.1 hm.2 hty).mono ?_
        intro e w1 hP
        rw [HX.out.1, HX.out.2] at hP
        obtain ⟨rfl, A, c9, hK1, hS, hc9, hst9⟩ := hP
        rw [HF.out] at hK1
        have HS := Lib.hid hS
        clear hS hc9 hst9
        have a1r := hK1.row; have a1f := hK1.free; have a1c := hK1.cell; have a1l := hK1.lt; have a1z := hK1.froz
        have a2r := hK1.tail.row; have a2f := hK1.tail.free; have a2c := hK1.tail.cell; have a2l := hK1.tail.lt; have a2z := hK1.tail.froz
        have n1 : ¬ w.heap.size = w.heap.size + 1 := by omega
        go_wp2_with fail
        refine (right_eq s.p A X.length c9 X false _ (HG.out.below hK1.below) HS.out HFIT.out HRR.out).mono ?_
        rintro e w2 ⟨rfl, hb2⟩
        have hK2 := hK1.more hb2
        clear a1r a1f a1c a1l a1z a2r a2f a2c a2l a2z hK1 hb2
        have a1r := hK2.row; have a1f := hK2.free; have a1c := hK2.cell; have a1l := hK2.lt; have a1z := hK2.froz
        have a2r := hK2.tail.row; have a2f := hK2.tail.free; have a2c := hK2.tail.cell; have a2l := hK2.tail.lt; have a2z := hK2.tail.froz
        go_wp2_with fail
        refine ret_pk2 4 5 w.heap.size zPk none 0 0 (.bool false) rfl rfl (by go_simp) rfl rfl ?_
        exact pai_no (hK2.swap.set (by intro x hx; simp at hx; subst hx; show w.heap.size + 1 ≠ w.heap.size; omega) _).below
    · have hlb : (s.l == []) = false := by rw [beq_eq_false_iff_ne]; exact hle
      have HE : Hid (s.l.isEmpty = false) := by show _ = _; cases h : s.l with | nil => exact absurd h hle | cons _ _ => rfl
      have HR : Hid (parR c l = (zPk, [], false)) := by show _ = _; rw [HP.out, hf, HE.out]; rfl
      rw [HR.out]
      have HF := Lib.hid hf
      clear HR HP HGOT hf hle
      go_enter Tryz.func35, Tryz.ntmps35
      go_wp2_with fail
      refine (pRest hK0 hne (by decide) hT (by omega) m hm.1 hm.2 hty).mono ?_
      intro e w1 hP
      rw [HX.out.1, HX.out.2] at hP
      obtain ⟨rfl, A, c9, hK1, _⟩ := hP
      rw [HF.out] at hK1
      have a1r := hK1.row; have a1f := hK1.free; have a1c := hK1.cell; have a1l := hK1.lt; have a1z := hK1.froz
      have a2r := hK1.tail.row; have a2f := hK1.tail.free; have a2c := hK1.tail.cell; have a2l := hK1.tail.lt; have a2z := hK1.tail.froz
      have n1 : ¬ w.heap.size = w.heap.size + 1 := by omega
      go_wp2_with fail
      refine ret_pk2 4 5 w.heap.size zPk none 0 0 (.bool false) rfl rfl (by go_simp) rfl rfl ?_
      exact pai_no (hK1.swap.set (by intro x hx; simp at hx; subst hx; show w.heap.size + 1 ≠ w.heap.size; omega) _).below
theorem parse_eq (c : Int) (l : List UInt8) (P : Pk) (X : List (List UInt8 × Int)) (r : Bool) (w : World) (hG : Glo w) (h0 : 0 ≤ c) (h1 : c ≤ 255) (hf : firB c = true) (hl : l.length ≤ 90000) (h : parR c l = (P, X, r)) :
    Calls Tryz.prog 35 #[.int .u8 c, .string ⟨l.toArray⟩] w fun e w' => PAI w P X r e w' := by
  have := parse_any c l w hG h0 h1 hf hl
  rw [h] at this
  exact this
theorem cut_eq (s l : List UInt8) (u e : Int) (w : World) (hl : s.length ≤ 1000000000) (h : cutR s = (l, u, e)) :
    Calls Tryz.prog 33 #[.string ⟨s.toArray⟩] w fun r w' => r = .returned (.tuple #[.string ⟨l.toArray⟩, .int .i64 u, .int .i64 e]) ∧ w' = w := by
  have := cut_any s w hl
  rw [h] at this
  exact this
/-- A packet that is told, how many bytes, and an error. -/
def DEC (w : World) (P : Pk) (X : List (List UInt8 × Int)) (n er : Int) (e : Ending) (w' : World) : Prop :=
  ∃ A c, e = .returned (.tuple #[.agg (PkC P A X.length c), .int .i64 n, .int .i64 er]) ∧ Below w.heap.size w w' ∧ Subs w' A X.length X ∧ (A = none → c = 0) ∧ SubT w.heap.size w' A X.length
theorem dec_mk {w w' : World} {P : Pk} {X : List (List UInt8 × Int)} {n er : Int} {A : Option Addr} {c : Nat} (hb : Below w.heap.size w w') (hS : Subs w' A X.length X) (hc : A = none → c = 0) (ht : SubT w.heap.size w' A X.length) : DEC w P X n er (.returned (.tuple #[.agg (PkC P A X.length c), .int .i64 n, .int .i64 er])) w' := ⟨A, c, rfl, hb, hS, hc, ht⟩
theorem dec_no {w w' : World} {P : Pk} {n er : Int} (hb : Below w.heap.size w w') : DEC w P [] n er (.returned (.tuple #[.agg (PkC P none 0 0), .int .i64 n, .int .i64 er])) w' := ⟨none, 0, rfl, hb, Subs.nil _, fun _ => rfl, fun hn => absurd hn (Nat.lt_irrefl 0)⟩
set_option maxHeartbeats 2000000 in
theorem decode_any (s : List UInt8) (w : World) (hG : Glo w) (hl : s.length ≤ 1000000000) (hr : (cutR s).1.length ≤ 90000) :
    Calls Tryz.prog 25 #[.string ⟨s.toArray⟩] w fun e w' => DEC w (decR s).1 (decR s).2.1 (decR s).2.2.1 (decR s).2.2.2 e w' := by
  have HD : Hid (decR s = if (cutR s).2.2 = 0 then
    if (othR (byV s) (cutR s).1).2 then ((zPk.s_ty 1).s_level (othR (byV s) (cutR s).1).1, [], (cutR s).2.1, 0)
    else if (parR (byV s) (cutR s).1).2.2 then ((parR (byV s) (cutR s).1).1, (parR (byV s) (cutR s).1).2.1, (cutR s).2.1, 0) else (zPk, [], 0, 4)
  else (zPk, [], 0, (cutR s).2.2)) := rfl
  have HG := Lib.hid hG
  have hok := Lib.hid (cut_ok (s := s))
  obtain ⟨l, h1⟩ : ∃ l, l = (cutR s).1 := ⟨_, rfl⟩
  obtain ⟨u, h2⟩ : ∃ u, u = (cutR s).2.1 := ⟨_, rfl⟩
  obtain ⟨er, h3⟩ : ∃ er, er = (cutR s).2.2 := ⟨_, rfl⟩
  have HC : Hid (cutR s = (l, u, er)) := by show _ = _; rw [h1, h2, h3]
  rw [← h1] at hr HD
  rw [← h2] at HD
  rw [← h3] at HD hok
  clear h1 h2 h3 hG
  have hK0 := (Kp.nil w).new (PkC zPk none 0 0) 36
  by_cases he : er = 0
  · subst he
    obtain ⟨b, r, _, _, hs, hf, _⟩ := hok.out rfl
    have hbb := b.toNat_lt
    have hbv : byV s = b.toNat := by rw [hs]; rfl
    have h1l : 1 ≤ s.length := by rw [hs]; simp
    have HA : ∀ h0 : 0 < (ByteArray.mk s.toArray).size, (ByteArray.mk s.toArray)[0]'h0 = b := by intro h0; subst hs; rfl
    rw [if_pos rfl, hbv] at HD
    have HF := Lib.hid hf
    clear hok hs hbv hf
    obtain ⟨lv, ob, ho⟩ : ∃ lv ob, othR b.toNat l = (lv, ob) := ⟨_, _, rfl⟩
    rw [ho] at HD
    have HO := Lib.hid ho
    clear ho
    cases ob with
    | true =>
      rw [if_pos rfl] at HD
      rw [HD.out]
      go_enter Tryz.func25, Tryz.ntmps25
      go_wp2_with fail
      refine (cut_eq s l u 0 _ hl HC.out).mono ?_
      rintro e w1 ⟨rfl, rfl⟩
      go_wp2_with fail
      refine (other_eq b.toNat l lv true _ (by omega) (by omega) (by omega) HO.out).mono ?_
      rintro e w2 ⟨rfl, hb2⟩
      have hK1 := hK0.more hb2
      clear hK0 hb2
      have a1r := hK1.row; have a1f := hK1.free; have a1c := hK1.cell; have a1l := hK1.lt; have a1z := hK1.froz
      go_wp2_with fail
      refine ret_pk3 2 3 4 w.heap.size ((zPk.s_ty 1).s_level lv) none 0 0 (.int .i64 u) (.int .i64 0) rfl rfl (by go_simp <;> rfl) rfl rfl rfl ?_
      exact dec_no (hK1.set (by simp) _).below
    | false =>
      rw [if_neg (by simp)] at HD
      obtain ⟨P, X, pb, hp⟩ : ∃ P X pb, parR b.toNat l = (P, X, pb) := ⟨_, _, _, rfl⟩
      rw [hp] at HD
      have HP := Lib.hid hp
      clear hp
      cases pb with
      | true =>
        rw [if_pos rfl] at HD
        rw [HD.out]
        go_enter Tryz.func25, Tryz.ntmps25
        go_wp2_with fail
        refine (cut_eq s l u 0 _ hl HC.out).mono ?_
        rintro e w1 ⟨rfl, rfl⟩
        go_wp2_with fail
        refine (other_eq b.toNat l lv false _ (by omega) (by omega) (by omega) HO.out).mono ?_
        rintro e w2 ⟨rfl, hb2⟩
        have hK1 := hK0.more hb2
        clear hK0 hb2
        go_wp2_with fail
        refine (parse_eq b.toNat l P X true _ (HG.out.below hK1.below) (by omega) (by omega) HF.out hr HP.out).mono ?_
        rintro e w3 ⟨A, c, rfl, hb3, hS, hc, hst⟩
        have hK2 := hK1.more hb3
        have HST := Lib.hid (subT_base hst hK1.below.size)
        have HROW := Lib.hid (hK2.rows (w.heap.size, PkC zPk none 0 0, 36) (by simp)).2
        have HS := Lib.hid hS
        have HCC := Lib.hid hc
        clear hK1 hS hc hst
        have a1r := hK2.row; have a1f := hK2.free; have a1c := hK2.cell; have a1l := hK2.lt; have a1z := hK2.froz
        go_wp2_with fail
        refine ret_pk3 2 3 4 w.heap.size P A X.length c (.int .i64 u) (.int .i64 0) rfl rfl (by go_simp <;> rfl) rfl rfl rfl ?_
        exact dec_mk (hK2.set (by simp) _).below (subs_setT HS.out HST.out HROW.out) HCC.out (subT_set HST.out HROW.out)
      | false =>
        rw [if_neg (by simp)] at HD
        rw [HD.out]
        go_enter Tryz.func25, Tryz.ntmps25
        go_wp2_with fail
        refine (cut_eq s l u 0 _ hl HC.out).mono ?_
        rintro e w1 ⟨rfl, rfl⟩
        go_wp2_with fail
        refine (other_eq b.toNat l lv false _ (by omega) (by omega) (by omega) HO.out).mono ?_
        rintro e w2 ⟨rfl, hb2⟩
        have hK1 := hK0.more hb2
        clear hK0 hb2
        go_wp2_with fail
        refine (parse_eq b.toNat l P X false _ (HG.out.below hK1.below) (by omega) (by omega) HF.out hr HP.out).mono ?_
        rintro e w3 ⟨A, c, rfl, hb3, hS, hc, hst⟩
        have hK2 := hK1.more hb3
        clear hK1 hS hc hst
        have a1r := hK2.row; have a1f := hK2.free; have a1c := hK2.cell; have a1l := hK2.lt; have a1z := hK2.froz
        go_wp2_with fail
        refine ret_pk3 2 3 4 _ zPk none 0 0 (.int .i64 0) (.int .i64 4) rfl rfl (by go_simp <;> rfl) rfl rfl rfl ?_
        exact dec_no (hK2.set (by simp) _).below
  · rw [if_neg he] at HD
    rw [HD.out]
    have hb0 : (er != 0) = true := by simpa using he
    clear hok he
    go_enter Tryz.func25, Tryz.ntmps25
    go_wp2_with fail
    refine (cut_eq s l u er _ hl HC.out).mono ?_
    rintro e w1 ⟨rfl, rfl⟩
    go_wp2_with fail
    refine ret_pk3 2 3 4 _ zPk none 0 0 (.int .i64 0) (.int .i64 er) rfl rfl (by go_simp <;> rfl) rfl rfl rfl ?_
    exact dec_no hK0.below
end Go.Proofs.YtnaedcennichlaaGreatDoor
