/-
  topic: whether levels cover others: a closure that calls itself.
-/
import Derived.Test.YthhadjnffeadfaaGreatDoorTpWalks
import Derived.Laws.EntriesVeiled
set_option linter.unusedSimpArgs false
set_option linter.unusedVariables false
namespace Go.Proofs.YthhadjnffeadfaaGreatDoor
open Go.RowKit

/-- What the closure has captured: two rows of levels, and itself. -/
def CvK (A B : List (List UInt8)) (pa pb pf : Nat) (wr : World) : Prop :=
  ∃ a b ca cb, wr.cell? ⟨pa, 0, none⟩ = some (.slice (some ⟨a, 0, none⟩) A.length ca) ∧ wr.cell? ⟨pb, 0, none⟩ = some (.slice (some ⟨b, 0, none⟩) B.length cb) ∧ wr.cell? ⟨pf, 0, none⟩ = some (.func (.func 62) #[] #[.pointer (some ⟨pa, 0, none⟩), .pointer (some ⟨pb, 0, none⟩), .pointer (some ⟨pf, 0, none⟩)])
    ∧ Strs wr (some ⟨a, 0, none⟩) A.length A ∧ Strs wr (some ⟨b, 0, none⟩) B.length B
theorem CvK.drewN {A B : List (List UInt8)} {pa pb pf : Nat} {wr : World} (h : CvK A B pa pb pf wr) (n : Nat) : CvK A B pa pb pf (wr.drewN n) := h
def QtB (w : World) (b : Bool) (e : Ending) (w' : World) : Prop := e = .returned (.bool b) ∧ ∃ m, w' = w.drewN m
set_option maxHeartbeats 1000000 in
set_option maxRecDepth 100000 in
theorem cover_any (A B : List (List UInt8)) (pa pb pf : Nat) (hA : A.length ≤ 1000000000) (hB : B.length ≤ 1000000000) :
    ∀ (m i : Nat) (z : Int) (c : Bool) (w : World), z = (i : Int) → A.length ≤ i + m → i ≤ A.length → i ≤ B.length → CvK A B pa pb pf w → covL (A.drop i) (B.drop i) = c →
      Calls Tryz.prog 62 #[.int .i64 z, .pointer (some ⟨pa, 0, none⟩), .pointer (some ⟨pb, 0, none⟩), .pointer (some ⟨pf, 0, none⟩)] w fun e w' => QtB w c e w'
  | 0, i, z, c, w, hz, hm, hiA, hiB, hK, hc => by
    subst hz
    obtain ⟨a, b, ca, cb, k1, k2, k3, k4, k5⟩ := hK
    have hi : i = A.length := by omega
    rw [cov_dropa A B i (by omega)] at hc
    have HC := Lib.hid hc
    have hn : ((i : Int) < (A.length : Int)) = False := by simp; omega
    have h1 : ((i : Int) == (A.length : Int)) = true := by simp; omega
    have h2 : ((A.length : Int) == (B.length : Int)) = decide (B.length ≤ i) := by rw [Bool.eq_iff_iff]; simp; omega
    rw [hc] at h2
    subst hi
    clear hc k4 k5 hn
    go_enter Tryz.func62, Tryz.ntmps62
    go_wp2_with fail
    go_ret
    exact ⟨rfl, 0, rfl⟩
  | m + 1, i, z, c, w, hz, hm, hiA, hiB, hK, hc => by
    subst hz
    have ih := Lib.hid (cover_any A B pa pb pf hA hB m (i + 1))
    have hK0 := hK
    obtain ⟨a, b, ca, cb, k1, k2, k3, k4, k5⟩ := hK
    by_cases hi : i < A.length
    · obtain ⟨x, hx, hcx⟩ := k4.at0 hi
      have hlt : (i : Int) < (A.length : Int) := by omega
      have hiI : (0 : Int) ≤ (i : Int) := by omega
      by_cases hh : x = [35]
      · rw [cov_dropx A B i x hx hh] at hc
        subst hc
        have h35 : (x == [35]) = true := by simpa using hh
        clear hx hh k4 k5 k3 k2 hK0
        go_enter Tryz.func62, Tryz.ntmps62
        go_wp2_with fail
        go_ret
        exact ⟨rfl, 0, rfl⟩
      · have h35 : (x == [35]) = false := by simpa using hh
        have hne : ((i : Int) == (A.length : Int)) = false := by simp; omega
        by_cases hj : i < B.length
        · obtain ⟨y, hy, hcy⟩ := k5.at0 hj
          have hltb : (i : Int) < (B.length : Int) := by omega
          have hneb : ((i : Int) == (B.length : Int)) = false := by simp; omega
          rw [cov_dropc A B i x y hx hh hy] at hc
          have HK := Lib.hid hK0
          have hlen : Hid (i + 1 ≤ A.length ∧ i + 1 ≤ B.length ∧ A.length ≤ i + 1 + m) := ⟨hi, hj, by omega⟩
          have hw1 : IntKind.i64.wrap ((i : Int) + 1) = (i : Int) + 1 := IntWalk.i64_in _ (by omega)
          clear hx hy hh k4 k5 hK0 hi hj hm hiA hiB
          cases hl : lcB x y with
          | false =>
            rw [hl, Bool.false_and] at hc
            subst hc
            have HL := Lib.hid hl
            clear hl ih
            go_enter Tryz.func62, Tryz.ntmps62
            go_wp2_with fail
            go_quiet ((go_at_call 63; exact Calls.quiet_of_same (levCov_eq _ _ false _ HL.out)))
            go_wp2_with fail
            go_ret
            exact ⟨rfl, _, rfl⟩
          | true =>
            rw [hl, Bool.true_and] at hc
            have HC := Lib.hid hc
            have HL := Lib.hid hl
            clear hl hc
            go_enter Tryz.func62, Tryz.ntmps62
            go_wp2_with fail
            go_quiet (first
              | (go_at_call 63; exact Calls.quiet_of_same (levCov_eq _ _ true _ HL.out))
              | (go_at_call 62; refine Calls.quiet_of (v := .bool c) ?_; exact ih.out _ c _ rfl hlen.out.2.2 hlen.out.1 hlen.out.2.1 (HK.out.drewN _) HC.out))
            go_wp2_with fail
            go_ret
            exact ⟨rfl, _, rfl⟩
        · have hneb : ((i : Int) == (B.length : Int)) = true := by simp; omega
          have hab : ((A.length : Int) == (B.length : Int)) = false := by simp; omega
          rw [cov_dropb A B i x hx hh (by omega)] at hc
          subst hc
          clear hx hh k4 k5 k3 hK0 ih hj
          go_enter Tryz.func62, Tryz.ntmps62
          go_wp2_with fail
          go_ret
          exact ⟨rfl, 0, rfl⟩
    · exact cover_any A B pa pb pf hA hB 0 i _ c w rfl (by omega) hiA hiB hK0 hc
theorem levsCover_eq (a b ca cb : Nat) (A B : List (List UInt8)) (c : Bool) (w : World) (hA : A.length ≤ 1000000000) (hB : B.length ≤ 1000000000) (h1 : Strs w (some ⟨a, 0, none⟩) A.length A) (h2 : Strs w (some ⟨b, 0, none⟩) B.length B) (h : covL A B = c) :
    Calls Tryz.prog 48 #[.slice (some ⟨a, 0, none⟩) A.length ca, .slice (some ⟨b, 0, none⟩) B.length cb] w fun e w' => e = .returned (.bool c) ∧ Below w.heap.size w w' := by
  have hb0 : ∀ o1 o2 o3, Below w.heap.size w (((w.alloc o1).alloc o2).alloc o3) := fun o1 o2 o3 => (((Below.refl _ _).alloc (Nat.le_refl _) _).alloc (by simp) _).alloc (by simp; omega) _
  have H := Lib.hid h
  have HB := Lib.hid hb0
  have H1 := Lib.hid h1
  have H2 := Lib.hid h2
  clear h hb0 h1 h2
  go_enter Tryz.func48, Tryz.ntmps48
  go_wp2_with fail
  refine (cover_any A B w.heap.size (w.heap.size + 1) (w.heap.size + 2) hA hB A.length 0 0 c _ rfl (by omega) (by omega) (by omega) ?_ H.out).mono ?_
  · exact ⟨a, b, ca, cb, by go_simp, by go_simp, by go_simp, H1.out.below (HB.out _ _ _), H2.out.below (HB.out _ _ _)⟩
  · rintro e w1 ⟨rfl, n, rfl⟩
    go_wp2_with fail
    go_ret
    exact ⟨rfl, below_drewN (HB.out _ _ _) _⟩
end Go.Proofs.YthhadjnffeadfaaGreatDoor
