/-
  Names and filters: the plain mathematics of packet's statements.
-/
import Derived.Test.YtncgkkhpcgdcaaaDoorPkSpec
set_option linter.unusedSimpArgs false
set_option linter.unusedVariables false
namespace Go.Proofs.YtncgkkhpcgdcaaaDoor

def has35 (l : List UInt8) : Bool := l.any fun b => b == 35
theorem scan_stop (l m : List UInt8) (d : UInt8) : ∀ st, has35 l = true → scanB st (l ++ d :: m) = false := by
  induction l with
  | nil => intro st h; cases h
  | cons c r ih =>
    intro st h
    rw [List.cons_append, scanB]
    by_cases hc : c = 35
    · subst hc
      have h1 : (r ++ d :: m).isEmpty = false := by cases r <;> rfl
      rw [h1]
      simp [isW]
    · have hr : has35 r = true := by simpa [has35, hc] using h
      rw [ih _ hr, Bool.and_false]
theorem scan_join (l m : List UInt8) : ∀ st, has35 l = false → scanB st (l ++ 47 :: m) = (scanB st l && scanB true m) := by
  induction l with
  | nil => intro st _; simp [scanB, isW]
  | cons c r ih =>
    intro st h
    have hc : (c == 35) = false := by
      have := h; simp [has35] at this; simpa using this.1
    have hr : has35 r = false := by
      have := h; simp [has35] at this; simp [has35]; exact this.2
    rw [List.cons_append, scanB, scanB, ih _ hr, ← Bool.and_assoc]
    congr 2
    have h1 : (r ++ 47 :: m).isEmpty = false := by cases r <;> rfl
    rw [h1]
    by_cases h43 : c = 43
    · subst h43
      cases r with
      | nil => simp [isW]
      | cons a r => simp [isW]
    · have hw : isW c = false := by unfold isW; rw [hc]; simpa using h43
      simp [hw]
theorem scan_plain (l : List UInt8) : ∀ st, hasW l = false → scanB st l = true := by
  induction l with
  | nil => intro _ _; rfl
  | cons c r ih =>
    intro st h
    rw [hasW_cons, Bool.or_eq_false_iff] at h
    rw [scanB, ih _ h.2, h.1]
    rfl
theorem flB_scan (l : List UInt8) : flB l = (!l.isEmpty && (valB l && scanB true l)) := by rw [flB, (scan_lev l).1]
theorem has35_W (l : List UInt8) (h : has35 l = true) : hasW l = true := by
  simp only [has35, hasW, List.any_eq_true] at h ⊢
  obtain ⟨b, h1, h2⟩ := h
  exact ⟨b, h1, by simp [isW, beq_iff_eq.1 h2]⟩
theorem nm_fl (l : List UInt8) : nmB l = (flB l && !hasW l) := by
  rw [flB_scan]
  unfold nmB
  cases h : hasW l with
  | true => simp
  | false => rw [scan_plain l true h]; simp
theorem val_slash (a b : List UInt8) (ha : valB a = true) (hb : valB b = true) (hl : a.length + b.length + 1 ≤ 65535) : valB (a ++ 47 :: b) = true := by
  obtain ⟨i, h1, _, _⟩ := valB_some a ha
  obtain ⟨j, h2, _, _⟩ := valB_some b hb
  have h3 := betweenT a b 47 (by decide) (by decide) i j h1 h2
  cases hv : valB (a ++ 47 :: b) with
  | true => rfl
  | false =>
    have := valB_none _ hv (by simp; omega)
    rw [h3] at this
    cases this
theorem fl_parts (l : List UInt8) (h : flB l = true) : l.isEmpty = false ∧ valB l = true ∧ scanB true l = true := by
  rw [flB_scan] at h
  simpa using h
theorem fl_last (a m : List UInt8) (d : UInt8) (h : has35 a = true) : flB (a ++ d :: m) = false := by
  rw [flB_scan, scan_stop a m d true h]; simp
theorem fl_join (a b : List UInt8) (ha : flB a = true) (hb : flB b = true) (h : has35 a = false) (hl : a.length + b.length + 1 ≤ 65535) : flB (a ++ 47 :: b) = true := by
  obtain ⟨a1, a2, a3⟩ := fl_parts a ha
  obtain ⟨b1, b2, b3⟩ := fl_parts b hb
  rw [flB_scan, scan_join a b true h, a3, b3, val_slash a b a2 b2 hl]
  cases a <;> rfl
theorem fl_slash (a : List UInt8) (ha : flB a = true) (h : has35 a = false) (hl : a.length + 1 ≤ 65535) : flB (a ++ [47]) = true := by
  obtain ⟨a1, a2, a3⟩ := fl_parts a ha
  rw [flB_scan, scan_join a [] true h, a3, val_slash a [] a2 (by decide +kernel) (by simpa using hl)]
  cases a <;> rfl
theorem topic_val (s : List UInt8) (hl : s.length ≤ 100000) : decide (0 ≤ restN ((zPk.s_ty 3).s_topic s) []) = nmB s := by
  have h1 : takeR ((zPk.s_ty 3).s_topic s) [] = nmB s := by
    simp [takeR, Pk.s_ty, Pk.s_topic, zPk, pubR]
  have h2 : takeB ((zPk.s_ty 3).s_topic s) [] = fldB s := by
    simp [takeB, Pk.s_ty, Pk.s_topic, zPk, pubB]
  have h3 : eqPk ((takeL ((zPk.s_ty 3).s_topic s)).s_ty 0) zPk = true := by
    rw [eqPk_iff]
    simp [takeL, Pk.s_ty, Pk.s_topic, zPk, pubL, Pk.s_load, Pk.s_qos, Pk.s_ret]
  have h4 : takeN ((zPk.s_ty 3).s_topic s) ([] : List (List UInt8 × Int)).length = 0 := by simp [takeN]
  unfold restN
  rw [h1, h2, h3, h4]
  have : fldB s ≤ 268435455 := by unfold fldB; omega
  have h0 : 0 ≤ fldB s := by unfold fldB; omega
  cases nmB s <;> simp [this, h0]
theorem filter_val (s : List UInt8) (hl : s.length ≤ 100000) : decide (0 ≤ restN ((zPk.s_ty 10).s_id 1) [(s, 0)]) = flB s := by
  have h1 : takeR ((zPk.s_ty 10).s_id 1) [(s, 0)] = flB s := by
    simp [takeR, Pk.s_ty, Pk.s_id, zPk, sbR]
  have h2 : takeB ((zPk.s_ty 10).s_id 1) [(s, 0)] = 2 + fldB s := by
    simp [takeB, Pk.s_ty, Pk.s_id, zPk, sbB]
  have h3 : eqPk ((takeL ((zPk.s_ty 10).s_id 1)).s_ty 0) zPk = true := by
    rw [eqPk_iff]
    simp [takeL, Pk.s_ty, Pk.s_id, zPk]
  have h4 : takeN ((zPk.s_ty 10).s_id 1) [(s, (0 : Int))].length = 0 := by simp [takeN, Pk.s_ty, Pk.s_id]
  unfold restN
  rw [h1, h2, h3, h4]
  have : 2 + fldB s ≤ 268435455 := by unfold fldB; omega
  have h0 : 0 ≤ 2 + fldB s := by unfold fldB; omega
  cases flB s <;> simp [this, h0]
def connW (s : List UInt8) : Pk := (((zPk.s_ty 1).s_level 4).s_hasWill true).s_will s [] 0 false
theorem conn_val (s : List UInt8) (hl : s.length ≤ 100000) : decide (0 ≤ restN (connW s) []) = nmB s := by
  have hv : valB [] = true := by decide +kernel
  have h1 : takeR (connW s) [] = nmB s := by
    simp [takeR, connW, Pk.s_ty, Pk.s_level, Pk.s_hasWill, Pk.s_will, zPk, conR, wlB, lgB, hv]
  have h2 : takeB (connW s) [] = 10 + 2 + (fldB s + 2) := by
    simp [takeB, connW, Pk.s_ty, Pk.s_level, Pk.s_hasWill, Pk.s_will, zPk, conB, fldB]
  have h3 : eqPk ((takeL (connW s)).s_ty 0) zPk = true := by
    rw [eqPk_iff]
    simp [takeL, connW, conL, Pk.s_ty, Pk.s_level, Pk.s_hasWill, Pk.s_will, zPk, Pk.s_clean, Pk.s_keep, Pk.s_client, Pk.s_hasUser, Pk.s_user, Pk.s_hasPass, Pk.s_pass]
  have h4 : takeN (connW s) ([] : List (List UInt8 × Int)).length = 0 := by simp [takeN]
  unfold restN
  rw [h1, h2, h3, h4]
  have h5 : 12 + (fldB s + 2) ≤ 268435455 := by unfold fldB; omega
  have h0 : 0 ≤ 12 + (fldB s + 2) := by unfold fldB; omega
  cases nmB s <;> simp [h5, h0]
end Go.Proofs.YtncgkkhpcgdcaaaDoor
