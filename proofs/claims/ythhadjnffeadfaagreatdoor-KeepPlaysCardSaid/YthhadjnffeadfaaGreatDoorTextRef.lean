/-
  text: what each function of the document's own answer answers.
-/
import Derived.Test.YthhadjnffeadfaaGreatDoorTextWalks
set_option linter.unusedSimpArgs false
set_option linter.unusedVariables false
namespace Go.Proofs.YthhadjnffeadfaaGreatDoor
open Go.RowKit

theorem sizeB_cases (c : UInt8) : (c.toNat < 128 ∧ sizeB c = 1) ∨ (128 ≤ c.toNat ∧ c.toNat < 192 ∧ sizeB c = 0) ∨ (192 ≤ c.toNat ∧ c.toNat < 224 ∧ sizeB c = 2) ∨ (224 ≤ c.toNat ∧ c.toNat < 240 ∧ sizeB c = 3) ∨ (240 ≤ c.toNat ∧ c.toNat < 248 ∧ sizeB c = 4) ∨ (248 ≤ c.toNat ∧ sizeB c = 0) := by
  unfold sizeB
  repeat' split
  all_goals omega
set_option maxRecDepth 100000 in
theorem refChSize_any (c : UInt8) (w : World) :
    Calls Tryz.prog 69 #[.int .u8 c.toNat] w fun e w' => e = .returned (.int .i64 (sizeB c)) ∧ w = w' := by
  have hc : c.toNat < 256 := c.toNat_lt
  go_enter Tryz.func69, Tryz.ntmps69
  go_wp2
  all_goals
    go_ret
    exact ⟨ret_int (by have := sizeB_cases c; omega), rfl⟩

theorem refLeast_any (n : Nat) (w : World) (h : 1 ≤ n) (h4 : n ≤ 4) :
    Calls Tryz.prog 70 #[.int .i64 n] w fun e w' => e = .returned (.int .i64 (leastB n)) ∧ Below w.heap.size w w' := by
  rcases (show n = 1 ∨ n = 2 ∨ n = 3 ∨ n = 4 from by omega) with rfl | rfl | rfl | rfl
  all_goals
    go_enter Tryz.func70, Tryz.ntmps70
    go_wp2
    go_ret
    exact ⟨rfl, (Below.refl _ _).alloc (Nat.le_refl _) _⟩

/-- What comes of a character's bits. -/
def chR (n : Nat) (o : Option Int) : Int × Nat := match o with
  | none => (0, 0)
  | some c => if badB n c then (0, 0) else (c, n)
theorem chP_go (L l : List UInt8) (a : UInt8) (n : Nat) (hL : L = a :: l) (h : sizeB a = n) (h0 : n ≠ 0) (h1 : n ≤ L.length) : chP L = chR n (chGo (n - 1) (L.drop 1) (a.toNat - offB n)) := by
  subst hL
  rw [List.length_cons] at h1
  simp only [chP, h]
  rw [if_neg (by omega)]
  rfl
theorem chP_off (L l : List UInt8) (a : UInt8) (hL : L = a :: l) (h : sizeB a = 0 ∨ L.length < sizeB a) : chP L = (0, 0) := by
  subst hL
  rw [List.length_cons] at h
  simp only [chP]
  rw [if_pos (by omega)]
theorem chGo_step (n k : Nat) (L : List UInt8) (c : Int) (h : k < n) (h1 : k < L.length) : chGo (n - k) (L.drop k) c = if contB L[k] then chGo (n - (k + 1)) (L.drop (k + 1)) (64 * c + (L[k].toNat : Int) - 128) else none := by
  rw [drop_at L k h1, show n - k = (n - (k + 1)) + 1 from by omega, chGo]
theorem offB_bd (a : UInt8) (n : Nat) (h : sizeB a = n) (h0 : n ≠ 0) : 0 ≤ (a.toNat : Int) - offB n ∧ (a.toNat : Int) - offB n ≤ 127 := by
  have ha := a.toNat_lt
  subst h
  unfold sizeB at h0 ⊢
  repeat' split
  all_goals simp_all [offB]
  all_goals omega
theorem refChSize_eq (c : UInt8) (n : Nat) (w : World) (h : sizeB c = n) :
    Calls Tryz.prog 69 #[.int .u8 c.toNat] w fun e w' => e = .returned (.int .i64 n) ∧ w = w' := h ▸ refChSize_any c w
theorem head_at (L : List UInt8) (a : UInt8) (l : List UInt8) (hL : L = a :: l) (h : 0 < (ByteArray.mk L.toArray).size) : (ByteArray.mk L.toArray)[0]'h = a := by
  subst hL; rfl

set_option maxHeartbeats 400000 in
theorem refCharacter_off (a : UInt8) (l L : List UInt8) (w : World) (hL : L = a :: l) (hl : L.length ≤ 9223372036854775807) (h : sizeB a = 0 ∨ L.length < sizeB a) :
    Calls Tryz.prog 55 #[.string ⟨L.toArray⟩] w fun e w' => e = .returned (.tuple #[.int .i64 (chP L).1, .int .i64 (chP L).2]) ∧ Below w.heap.size w w' := by
  rw [chP_off L l a hL h]
  have hpos : 0 < L.length := by rw [hL]; simp
  have g0 := head_at L a l hL (by show _ < L.toArray.size; simp; omega)
  clear hL
  have ha : a.toNat < 256 := a.toNat_lt
  have H := Lib.hid h
  have hb : Below w.heap.size w w := Below.refl _ _
  by_cases hz : sizeB a = 0
  · have HZ := Lib.hid hz
    clear hz h
    go_enter Tryz.func55, Tryz.ntmps55
    go_wp2_with fail
    refine (refChSize_eq a 0 _ HZ.out).mono ?_
    rintro e w1 ⟨rfl, rfl⟩
    go_wp2
    go_ret2
    exact ⟨rfl, hb⟩
  · have hlt : L.length < sizeB a := by omega
    have hn0 : ((sizeB a : Int) == 0) = false := by simp; omega
    clear hz h H
    go_enter Tryz.func55, Tryz.ntmps55
    go_wp2_with fail
    refine (refChSize_eq a _ _ rfl).mono ?_
    rintro e w1 ⟨rfl, rfl⟩
    go_wp2
    go_ret2
    exact ⟨rfl, hb⟩

set_option maxRecDepth 100000 in
set_option maxHeartbeats 1000000 in
theorem refCharacter_on1 (a : UInt8) (l L : List UInt8) (w : World) (hL : L = a :: l) (hl : L.length ≤ 9223372036854775807) (h : sizeB a = 1) (hnl : 1 ≤ L.length) :
    Calls Tryz.prog 55 #[.string ⟨L.toArray⟩] w fun e w' => e = .returned (.tuple #[.int .i64 (chP L).1, .int .i64 (chP L).2]) ∧ Below w.heap.size w w' := by
  have HP := Lib.hid (chP_go L l a 1 hL h (by omega) hnl)
  have hpos : 0 < L.length := by rw [hL]; simp
  have g0 := head_at L a l hL (by show _ < L.toArray.size; simp; omega)
  clear hL
  have ha : a.toNat < 256 := a.toNat_lt
  have hob := offB_bd a 1 h (by omega)
  simp only [offB] at hob
  have HN := Lib.hid h
  have hb : Below w.heap.size w w := Below.refl _ _
  clear h
  go_enter Tryz.func55, Tryz.ntmps55
  go_wp2_with fail
  refine (refChSize_eq a 1 _ HN.out).mono ?_
  rintro e w1 ⟨rfl, rfl⟩
  go_wp2_with fail
  go_loopw [5, 6] (fun c i wr => ∃ (k : Nat) (cc : Int), 1 ≤ k ∧ k ≤ 1 ∧ i = .int .i64 k ∧ c = .int .i64 cc ∧ 0 ≤ cc ∧ cc ≤ 33554431 ∧ Below w.heap.size w wr ∧ Hid ((k = 1 → cc ≤ 127) ∧ (k = 2 → cc ≤ 8191) ∧ (k = 3 → cc ≤ 524287)) ∧ Hid (chP L = chR 1 (chGo (1 - k) (L.drop k) cc))) (fun _ i _ => 5 - (intOf i).toNat)
  case atStart => exact ⟨1, _, by omega, by omega, rfl, rfl, by omega, by omega, by first | exact hb | exact below_alloc hb _, ⟨by omega, by omega, by omega⟩, Lib.hid (by have := HP.out; simpa [offB] using this)⟩
  case round =>
    clear hob
    obtain ⟨k, cc, hk1, hkn, rfl, rfl, hc0, hc1, hb, hbd, HG⟩ := hrel
    by_cases hlt : k < 1
    · have hkl : k < L.length := by omega
      have hst := Lib.hid (chGo_step 1 k L cc hlt hkl)
      have hg := byte_at L k hkl (by show _ < L.toArray.size; simp; omega)
      have hkI : (k : Int) < 1 := by omega
      generalize L[k] = c at *
      have hc : c.toNat < 256 := c.toNat_lt
      go_wp2_with fail
      all_goals first
        | (go_roundw
           case rel =>
             have hc1 : 128 ≤ c.toNat ∧ c.toNat ≤ 191 := by omega
             have h1 := hst.out
             rw [if_pos ((cont_iff c).2 hc1)] at h1
             have h2 := HG.out
             rw [h1] at h2
             have h3 := hbd.out
             exact ⟨k + 1, _, by omega, by omega, by go_num, rfl, by omega, by omega, hb, ⟨by omega, by omega, by omega⟩, h2⟩
           case measure => simp [intOf]; omega)
        | (go_ret2
           refine ⟨?_, hb⟩
           have h1 := hst.out
           rw [if_neg (by rw [cont_iff]; omega)] at h1
           rw [HG.out, h1]
           rfl)
    · obtain rfl : k = 1 := by omega
      go_wp2_with fail
      refine (refLeast_any 1 _ (by omega) (by omega)).mono ?_
      rintro e w2 ⟨rfl, hb2⟩
      replace hb := below_more hb hb2
      clear hb2
      have HF : Hid (chP L = chR 1 (some cc)) := by have := HG.out; rwa [Nat.sub_self] at this
      clear HG
      go_wp2_with fail
      all_goals
        go_ret2
        refine ⟨?_, hb⟩
        rw [HF.out, chR]
        first
        | (rw [if_pos (by simp [badB]; omega)]; rfl)
        | (rw [if_neg (by simp [badB]; omega)]; rfl)
set_option maxRecDepth 100000 in
set_option maxHeartbeats 1000000 in
theorem refCharacter_on2 (a : UInt8) (l L : List UInt8) (w : World) (hL : L = a :: l) (hl : L.length ≤ 9223372036854775807) (h : sizeB a = 2) (hnl : 2 ≤ L.length) :
    Calls Tryz.prog 55 #[.string ⟨L.toArray⟩] w fun e w' => e = .returned (.tuple #[.int .i64 (chP L).1, .int .i64 (chP L).2]) ∧ Below w.heap.size w w' := by
  have HP := Lib.hid (chP_go L l a 2 hL h (by omega) hnl)
  have hpos : 0 < L.length := by rw [hL]; simp
  have g0 := head_at L a l hL (by show _ < L.toArray.size; simp; omega)
  clear hL
  have ha : a.toNat < 256 := a.toNat_lt
  have hob := offB_bd a 2 h (by omega)
  simp only [offB] at hob
  have HN := Lib.hid h
  have hb : Below w.heap.size w w := Below.refl _ _
  clear h
  go_enter Tryz.func55, Tryz.ntmps55
  go_wp2_with fail
  refine (refChSize_eq a 2 _ HN.out).mono ?_
  rintro e w1 ⟨rfl, rfl⟩
  go_wp2_with fail
  go_loopw [5, 6] (fun c i wr => ∃ (k : Nat) (cc : Int), 1 ≤ k ∧ k ≤ 2 ∧ i = .int .i64 k ∧ c = .int .i64 cc ∧ 0 ≤ cc ∧ cc ≤ 33554431 ∧ Below w.heap.size w wr ∧ Hid ((k = 1 → cc ≤ 127) ∧ (k = 2 → cc ≤ 8191) ∧ (k = 3 → cc ≤ 524287)) ∧ Hid (chP L = chR 2 (chGo (2 - k) (L.drop k) cc))) (fun _ i _ => 5 - (intOf i).toNat)
  case atStart => exact ⟨1, _, by omega, by omega, rfl, rfl, by omega, by omega, by first | exact hb | exact below_alloc hb _, ⟨by omega, by omega, by omega⟩, Lib.hid (by have := HP.out; simpa [offB] using this)⟩
  case round =>
    clear hob
    obtain ⟨k, cc, hk1, hkn, rfl, rfl, hc0, hc1, hb, hbd, HG⟩ := hrel
    by_cases hlt : k < 2
    · have hkl : k < L.length := by omega
      have hst := Lib.hid (chGo_step 2 k L cc hlt hkl)
      have hg := byte_at L k hkl (by show _ < L.toArray.size; simp; omega)
      have hkI : (k : Int) < 2 := by omega
      generalize L[k] = c at *
      have hc : c.toNat < 256 := c.toNat_lt
      go_wp2_with fail
      all_goals first
        | (go_roundw
           case rel =>
             have hc1 : 128 ≤ c.toNat ∧ c.toNat ≤ 191 := by omega
             have h1 := hst.out
             rw [if_pos ((cont_iff c).2 hc1)] at h1
             have h2 := HG.out
             rw [h1] at h2
             have h3 := hbd.out
             exact ⟨k + 1, _, by omega, by omega, by go_num, rfl, by omega, by omega, hb, ⟨by omega, by omega, by omega⟩, h2⟩
           case measure => simp [intOf]; omega)
        | (go_ret2
           refine ⟨?_, hb⟩
           have h1 := hst.out
           rw [if_neg (by rw [cont_iff]; omega)] at h1
           rw [HG.out, h1]
           rfl)
    · obtain rfl : k = 2 := by omega
      go_wp2_with fail
      refine (refLeast_any 2 _ (by omega) (by omega)).mono ?_
      rintro e w2 ⟨rfl, hb2⟩
      replace hb := below_more hb hb2
      clear hb2
      have HF : Hid (chP L = chR 2 (some cc)) := by have := HG.out; rwa [Nat.sub_self] at this
      clear HG
      go_wp2_with fail
      all_goals
        go_ret2
        refine ⟨?_, hb⟩
        rw [HF.out, chR]
        first
        | (rw [if_pos (by simp [badB]; omega)]; rfl)
        | (rw [if_neg (by simp [badB]; omega)]; rfl)
set_option maxRecDepth 100000 in
set_option maxHeartbeats 1000000 in
theorem refCharacter_on3 (a : UInt8) (l L : List UInt8) (w : World) (hL : L = a :: l) (hl : L.length ≤ 9223372036854775807) (h : sizeB a = 3) (hnl : 3 ≤ L.length) :
    Calls Tryz.prog 55 #[.string ⟨L.toArray⟩] w fun e w' => e = .returned (.tuple #[.int .i64 (chP L).1, .int .i64 (chP L).2]) ∧ Below w.heap.size w w' := by
  have HP := Lib.hid (chP_go L l a 3 hL h (by omega) hnl)
  have hpos : 0 < L.length := by rw [hL]; simp
  have g0 := head_at L a l hL (by show _ < L.toArray.size; simp; omega)
  clear hL
  have ha : a.toNat < 256 := a.toNat_lt
  have hob := offB_bd a 3 h (by omega)
  simp only [offB] at hob
  have HN := Lib.hid h
  have hb : Below w.heap.size w w := Below.refl _ _
  clear h
  go_enter Tryz.func55, Tryz.ntmps55
  go_wp2_with fail
  refine (refChSize_eq a 3 _ HN.out).mono ?_
  rintro e w1 ⟨rfl, rfl⟩
  go_wp2_with fail
  go_loopw [5, 6] (fun c i wr => ∃ (k : Nat) (cc : Int), 1 ≤ k ∧ k ≤ 3 ∧ i = .int .i64 k ∧ c = .int .i64 cc ∧ 0 ≤ cc ∧ cc ≤ 33554431 ∧ Below w.heap.size w wr ∧ Hid ((k = 1 → cc ≤ 127) ∧ (k = 2 → cc ≤ 8191) ∧ (k = 3 → cc ≤ 524287)) ∧ Hid (chP L = chR 3 (chGo (3 - k) (L.drop k) cc))) (fun _ i _ => 5 - (intOf i).toNat)
  case atStart => exact ⟨1, _, by omega, by omega, rfl, rfl, by omega, by omega, by first | exact hb | exact below_alloc hb _, ⟨by omega, by omega, by omega⟩, Lib.hid (by have := HP.out; simpa [offB] using this)⟩
  case round =>
    clear hob
    obtain ⟨k, cc, hk1, hkn, rfl, rfl, hc0, hc1, hb, hbd, HG⟩ := hrel
    by_cases hlt : k < 3
    · have hkl : k < L.length := by omega
      have hst := Lib.hid (chGo_step 3 k L cc hlt hkl)
      have hg := byte_at L k hkl (by show _ < L.toArray.size; simp; omega)
      have hkI : (k : Int) < 3 := by omega
      generalize L[k] = c at *
      have hc : c.toNat < 256 := c.toNat_lt
      go_wp2_with fail
      all_goals first
        | (go_roundw
           case rel =>
             have hc1 : 128 ≤ c.toNat ∧ c.toNat ≤ 191 := by omega
             have h1 := hst.out
             rw [if_pos ((cont_iff c).2 hc1)] at h1
             have h2 := HG.out
             rw [h1] at h2
             have h3 := hbd.out
             exact ⟨k + 1, _, by omega, by omega, by go_num, rfl, by omega, by omega, hb, ⟨by omega, by omega, by omega⟩, h2⟩
           case measure => simp [intOf]; omega)
        | (go_ret2
           refine ⟨?_, hb⟩
           have h1 := hst.out
           rw [if_neg (by rw [cont_iff]; omega)] at h1
           rw [HG.out, h1]
           rfl)
    · obtain rfl : k = 3 := by omega
      go_wp2_with fail
      refine (refLeast_any 3 _ (by omega) (by omega)).mono ?_
      rintro e w2 ⟨rfl, hb2⟩
      replace hb := below_more hb hb2
      clear hb2
      have HF : Hid (chP L = chR 3 (some cc)) := by have := HG.out; rwa [Nat.sub_self] at this
      clear HG
      go_wp2_with fail
      all_goals
        go_ret2
        refine ⟨?_, hb⟩
        rw [HF.out, chR]
        first
        | (rw [if_pos (by simp [badB]; omega)]; rfl)
        | (rw [if_neg (by simp [badB]; omega)]; rfl)
set_option maxRecDepth 100000 in
set_option maxHeartbeats 1000000 in
theorem refCharacter_on4 (a : UInt8) (l L : List UInt8) (w : World) (hL : L = a :: l) (hl : L.length ≤ 9223372036854775807) (h : sizeB a = 4) (hnl : 4 ≤ L.length) :
    Calls Tryz.prog 55 #[.string ⟨L.toArray⟩] w fun e w' => e = .returned (.tuple #[.int .i64 (chP L).1, .int .i64 (chP L).2]) ∧ Below w.heap.size w w' := by
  have HP := Lib.hid (chP_go L l a 4 hL h (by omega) hnl)
  have hpos : 0 < L.length := by rw [hL]; simp
  have g0 := head_at L a l hL (by show _ < L.toArray.size; simp; omega)
  clear hL
  have ha : a.toNat < 256 := a.toNat_lt
  have hob := offB_bd a 4 h (by omega)
  simp only [offB] at hob
  have HN := Lib.hid h
  have hb : Below w.heap.size w w := Below.refl _ _
  clear h
  go_enter Tryz.func55, Tryz.ntmps55
  go_wp2_with fail
  refine (refChSize_eq a 4 _ HN.out).mono ?_
  rintro e w1 ⟨rfl, rfl⟩
  go_wp2_with fail
  go_loopw [5, 6] (fun c i wr => ∃ (k : Nat) (cc : Int), 1 ≤ k ∧ k ≤ 4 ∧ i = .int .i64 k ∧ c = .int .i64 cc ∧ 0 ≤ cc ∧ cc ≤ 33554431 ∧ Below w.heap.size w wr ∧ Hid ((k = 1 → cc ≤ 127) ∧ (k = 2 → cc ≤ 8191) ∧ (k = 3 → cc ≤ 524287)) ∧ Hid (chP L = chR 4 (chGo (4 - k) (L.drop k) cc))) (fun _ i _ => 5 - (intOf i).toNat)
  case atStart => exact ⟨1, _, by omega, by omega, rfl, rfl, by omega, by omega, by first | exact hb | exact below_alloc hb _, ⟨by omega, by omega, by omega⟩, Lib.hid (by have := HP.out; simpa [offB] using this)⟩
  case round =>
    clear hob
    obtain ⟨k, cc, hk1, hkn, rfl, rfl, hc0, hc1, hb, hbd, HG⟩ := hrel
    by_cases hlt : k < 4
    · have hkl : k < L.length := by omega
      have hst := Lib.hid (chGo_step 4 k L cc hlt hkl)
      have hg := byte_at L k hkl (by show _ < L.toArray.size; simp; omega)
      have hkI : (k : Int) < 4 := by omega
      generalize L[k] = c at *
      have hc : c.toNat < 256 := c.toNat_lt
      go_wp2_with fail
      all_goals first
        | (go_roundw
           case rel =>
             have hc1 : 128 ≤ c.toNat ∧ c.toNat ≤ 191 := by omega
             have h1 := hst.out
             rw [if_pos ((cont_iff c).2 hc1)] at h1
             have h2 := HG.out
             rw [h1] at h2
             have h3 := hbd.out
             exact ⟨k + 1, _, by omega, by omega, by go_num, rfl, by omega, by omega, hb, ⟨by omega, by omega, by omega⟩, h2⟩
           case measure => simp [intOf]; omega)
        | (go_ret2
           refine ⟨?_, hb⟩
           have h1 := hst.out
           rw [if_neg (by rw [cont_iff]; omega)] at h1
           rw [HG.out, h1]
           rfl)
    · obtain rfl : k = 4 := by omega
      go_wp2_with fail
      refine (refLeast_any 4 _ (by omega) (by omega)).mono ?_
      rintro e w2 ⟨rfl, hb2⟩
      replace hb := below_more hb hb2
      clear hb2
      have HF : Hid (chP L = chR 4 (some cc)) := by have := HG.out; rwa [Nat.sub_self] at this
      clear HG
      go_wp2_with fail
      all_goals
        go_ret2
        refine ⟨?_, hb⟩
        rw [HF.out, chR]
        first
        | (rw [if_pos (by simp [badB]; omega)]; rfl)
        | (rw [if_neg (by simp [badB]; omega)]; rfl)
theorem refCharacter_any (a : UInt8) (l L : List UInt8) (w : World) (hL : L = a :: l) (hl : L.length ≤ 9223372036854775807) :
    Calls Tryz.prog 55 #[.string ⟨L.toArray⟩] w fun e w' => e = .returned (.tuple #[.int .i64 (chP L).1, .int .i64 (chP L).2]) ∧ Below w.heap.size w w' := by
  by_cases h : sizeB a = 0 ∨ L.length < sizeB a
  · exact refCharacter_off a l L w hL hl h
  · have h4 : sizeB a ≤ 4 := by have := sizeB_cases a; omega
    rcases (show sizeB a = 1 ∨ sizeB a = 2 ∨ sizeB a = 3 ∨ sizeB a = 4 from by omega) with h1 | h1 | h1 | h1
    · exact refCharacter_on1 a l L w hL hl h1 (by omega)
    · exact refCharacter_on2 a l L w hL hl h1 (by omega)
    · exact refCharacter_on3 a l L w hL hl h1 (by omega)
    · exact refCharacter_on4 a l L w hL hl h1 (by omega)
end Go.Proofs.YthhadjnffeadfaaGreatDoor
