/-
  keep's statements: messages that came in; what their helpers answer.
-/
import Derived.Test.YthhadjnffeadfaaGreatDoorKpAll
import Derived.Test.YthhadjnffeadfaaGreatDoorTrActs
set_option linter.unusedSimpArgs false
set_option linter.unusedVariables false
namespace Go.Proofs.YthhadjnffeadfaaGreatDoor
open Go.RowKit Go.ChangeShapes Go.WideShapes Go.Deep

/-- What holds of any message that comes in. -/
def MIn (x : Ms) : Prop := 0 ≤ x.2.2.1 ∧ x.2.2.1 ≤ 255 ∧ x.1.length ≤ 9223372036854775807 ∧ x.2.1.length ≤ 9223372036854775807
theorem msgs_cells {w : World} {b : Nat} : ∀ (L : List Ms) (off : Nat), (∀ j x, L[j]? = some x → MsAt w b (off + j * 4) x) → ∀ j u, (flatM L)[j]? = some u → w.cell? ⟨b, off + j, none⟩ = some u
  | [], _, _, j, u, h => by simp [flatM] at h
  | a :: r, off, h, j, u, hu => by
    rw [flatM_cons] at hu
    have h0 := h 0 a rfl
    rw [Nat.zero_mul, Nat.add_zero] at h0
    match j, hu with
    | 0, hu => simp at hu; subst hu; exact h0.1
    | 1, hu => simp at hu; subst hu; exact h0.2.1
    | 2, hu => simp at hu; subst hu; exact h0.2.2.1
    | 3, hu => simp at hu; subst hu; exact h0.2.2.2
    | j + 4, hu =>
      have := msgs_cells r (off + 4) (fun j x hx => by have := h (j + 1) x (by simpa using hx); rwa [Nat.succ_mul, Nat.add_comm (j * 4), ← Nat.add_assoc] at this) j u (by simpa using hu)
      rw [show off + (j + 4) = off + 4 + j by omega]
      exact this
section
variable {H : Type} {enc : TypeId × Value → H}
set_option maxRecDepth 100000 in
theorem open_Msgs {W : World} {base : Nat} {v : Value} {d : DataW H} {pl : List MemPlace} {sp : Nat → Bool} {hd : Bool}
    (hok : Value.okWide Tryz.prog W .any base 22 v) (h : DataW.Trod enc Tryz.prog W 0 sp hd 22 v d pl) : ∃ A n c l, v = .slice A n c ∧ Msgs W A n l ∧ (A = none → c = 0) ∧ n ≤ 9223372036854775807 ∧ Hid (∀ x ∈ l, MIn x) := by
  obtain ⟨a0, len0, cap0, rfl⟩ := okWide_slice Tryz.underlying22 hok
  obtain ⟨fuel, hf⟩ := h
  rcases open_slice_flat Tryz.underlying22 Tryz.underlying32 (by kernel_rfl) (by kernel_rfl) hf with ⟨hcs, _⟩ | ⟨a, len, cap, m, hcs, hl, hm, hml, hi⟩
  · have e0 : Value.slice a0 len0 cap0 = .slice none 0 0 := by simpa [Value.cells] using hcs
    rw [e0]
    exact ⟨none, 0, 0, [], rfl, Msgs.nil _, fun _ => rfl, by omega, fun x hx => (by cases hx)⟩
  · have e0 : Value.slice a0 len0 cap0 = .slice (some a) len cap := by simpa [Value.cells] using hcs
    rw [e0]
    have hmax : cap ≤ 9223372036854775807 := by unfold maxLen at hm; omega
    rcases Nat.eq_zero_or_pos len with h0 | h0
    · subst h0
      exact ⟨some a, 0, cap, [], rfl, Msgs.nil _, fun e => (by cases e), by omega, fun x hx => (by cases hx)⟩
    have key : ∀ i, i < len → ∃ x : Ms, (W.cell? (a.add (i * 4)) = some (.string ⟨x.1.toArray⟩) ∧ W.cell? (a.add (i * 4 + 1)) = some (.string ⟨x.2.1.toArray⟩) ∧ W.cell? (a.add (i * 4 + 2)) = some (.int .u8 x.2.2.1) ∧ W.cell? (a.add (i * 4 + 3)) = some (.bool x.2.2.2)) ∧ MIn x := by
      intro i hil
      obtain ⟨n, hj⟩ := hi i (by omega)
      obtain ⟨v0, y0, c0, t0⟩ := hj 0 _ rfl
      obtain ⟨v1, y1, c1, t1⟩ := hj 1 _ rfl
      obtain ⟨v2, y2, c2, t2⟩ := hj 2 _ rfl
      obtain ⟨v3, y3, c3, t3⟩ := hj 3 _ rfl
      obtain ⟨s1, es1, _, hs1⟩ := DataW.trod_string Tryz.underlying9 t0
      obtain ⟨s2, es2, _, hs2⟩ := DataW.trod_string Tryz.underlying9 t1
      obtain ⟨q, eq, _, hq⟩ := DataW.trod_int Tryz.underlying5 t2
      obtain ⟨b, eb, _⟩ := DataW.trod_bool Tryz.underlying4 t3
      obtain rfl := (List.cons.inj es1).1
      obtain rfl := (List.cons.inj es2).1
      obtain rfl := (List.cons.inj eq).1
      obtain rfl := (List.cons.inj eb).1
      obtain ⟨l1, rfl, z1⟩ := str_of s1
      obtain ⟨l2, rfl, z2⟩ := str_of s2
      have hqb := u8_bd q hq
      unfold maxLen at hs1 hs2
      exact ⟨(l1, l2, q, b), ⟨c0, c1, c2, c3⟩, hqb.1, hqb.2, by show l1.length ≤ _; omega, by show l2.length ≤ _; omega⟩
    obtain ⟨b, off, spot⟩ := a
    have hspot : spot = none := by
      obtain ⟨x, h1, _⟩ := key 0 h0
      simpa [Addr.add] using World.cell?_spot h1.1
    subst hspot
    have add_p : ∀ j, (⟨b, off, none⟩ : Addr).add j = ⟨b, off + j, none⟩ := fun j => by unfold Addr.add; split <;> simp_all
    obtain ⟨L, hL, hP⟩ := list_of2 _ len key
    refine ⟨some ⟨b, off, none⟩, len, cap, L, rfl, ⟨hL, fun _ => ⟨b, off, rfl, msgs_cells L off fun j x hx => ?_⟩⟩, fun e => (by cases e), by omega, fun x hx => ?_⟩
    · obtain ⟨h1, h2, h3, h4⟩ := (hP j x hx).1
      rw [add_p] at h1 h2 h3 h4
      exact ⟨h1, by rw [Nat.add_assoc]; exact h2, by rw [Nat.add_assoc]; exact h3, by rw [Nat.add_assoc]; exact h4⟩
    · obtain ⟨i, hi2⟩ := List.mem_iff_getElem?.1 hx
      exact (hP i x hi2).2
end
/-- Few and small enough. -/
def MsgsOk (l : List Ms) : Prop := l.length ≤ 60 ∧ ∀ x ∈ l, x.1.length ≤ 300 ∧ x.2.1.length ≤ 300
def G10 (l : List Ms) (e : Ending) (w w' : World) : Prop := ∃ b, e = .returned (.bool b) ∧ (b = false → MsgsOk l) ∧ w = w'
theorem great10_any (A : Option Addr) (n c : Nat) (l : List Ms) (w : World) (hs : Msgs w A n l) (hn : n ≤ 9223372036854775807) (hi : Hid (∀ x ∈ l, MIn x)) :
    Calls Tryz.prog 5 #[.slice A n c] w fun e w' => G10 l e w w' := by
  have HL := Lib.hid hs.len
  have HS := Lib.hid hs
  clear hs
  go_enter Tryz.func5, Tryz.ntmps5
  go_wp2_with fail
  go_loop [3] (fun i => ∃ k : Nat, i = .int .i64 k ∧ k ≤ n ∧ Hid (∀ (j : Nat) (x : Ms), j < k → l[j]? = some x → x.1.length ≤ 300 ∧ x.2.1.length ≤ 300)) (fun i => n - (intOf i).toNat)
  case atStart => exact ⟨0, rfl, by omega, fun j x hj => by omega⟩
  case round =>
    obtain ⟨k, rfl, hk, hc⟩ := hrel
    by_cases hlt : k < n
    · obtain ⟨b1, o1, x, rfl, hx, c0, c1, c2, c3⟩ := HS.out.at_ hlt
      obtain ⟨_, _, hf, hcl⟩ := hi.out x (List.mem_of_getElem? hx)
      obtain ⟨xf, xc, xq, xb⟩ := x
      have HX := Lib.hid hx
      dsimp only at hf hcl c0 c1 c2 c3
      clear hx
      by_cases h1 : 300 < xf.length
      · have i1 : (300 : Int) < (xf.length : Int) := by omega
        go_wp2_with fail
        go_ret
        exact ⟨true, rfl, (fun h => by cases h), rfl⟩
      · have i1 : ¬ (300 : Int) < (xf.length : Int) := by omega
        by_cases h2 : 300 < xc.length
        · have i2 : (300 : Int) < (xc.length : Int) := by omega
          go_wp2_with fail
          go_ret
          exact ⟨true, rfl, (fun h => by cases h), rfl⟩
        · have i2 : ¬ (300 : Int) < (xc.length : Int) := by omega
          have HN : Hid (∀ (j : Nat) (y : Ms), j < k + 1 → l[j]? = some y → y.1.length ≤ 300 ∧ y.2.1.length ≤ 300) := by
            intro j y hj hy
            by_cases hjk : j = k
            · subst hjk; rw [HX.out] at hy; cases hy
              exact ⟨by show xf.length ≤ 300; omega, by show xc.length ≤ 300; omega⟩
            · exact hc.out j y (by omega) hy
          go_wp2_with fail
          go_round
          case rel => exact ⟨k + 1, by go_num, by omega, HN⟩
          case measure => simp [intOf]; omega
    · have HA : Hid (∀ x ∈ l, x.1.length ≤ 300 ∧ x.2.1.length ≤ 300) := by
        intro x hx
        obtain ⟨j, hj, e⟩ := List.mem_iff_getElem.1 hx
        exact hc.out j x (by rw [HL.out] at hj; omega) (by rw [List.getElem?_eq_getElem hj, e])
      by_cases h6 : 60 < n
      · have i6 : (60 : Int) < (n : Int) := by omega
        go_wp2_with fail
        go_ret
        exact ⟨true, by simp, fun h => (by cases h), rfl⟩
      · have i6 : ¬ (60 : Int) < (n : Int) := by omega
        go_wp2_with fail
        go_ret
        exact ⟨false, by simp, fun _ => ⟨by rw [HL.out]; omega, HA.out⟩, rfl⟩
theorem sameMsgs_eq (A : Option Addr) (n c : Nat) (xs : List Ms) (B : Option Addr) (m d : Nat) (ys : List Ms) (b : Bool) (w : World) (h1 : Msgs w A n xs) (h2 : Msgs w B m ys) (hn : n ≤ 1000000000) (h : (xs == ys) = b) :
    Calls Tryz.prog 15 #[.slice A n c, .slice B m d] w fun e w' => e = .returned (.bool b) ∧ Below w.heap.size w w' := by
  have l1 := h1.len
  have l2 := h2.len
  by_cases hnm : n = m
  · subst hnm
    have HB0 : Hid (∀ (k : Nat) (x y : Ms), xs[k]? = some x → ys[k]? = some y → x ≠ y → b = false) := by
      intro k x y hx hy hne
      rw [← h, beq_eq_false_iff_ne]
      rintro rfl
      rw [hx] at hy
      cases hy
      exact hne rfl
    have HB1 : Hid ((∀ k : Nat, k < n → xs[k]? = ys[k]?) → b = true) := by
      intro he
      rw [← h, beq_iff_eq]
      apply List.ext_getElem?
      intro i
      by_cases hi : i < n
      · exact he i hi
      · rw [List.getElem?_eq_none (by omega), List.getElem?_eq_none (by omega)]
    clear h l1 l2
    have H1 := Lib.hid h1
    have H2 := Lib.hid h2
    clear h1 h2
    go_enter Tryz.func15, Tryz.ntmps15
    go_wp2_with fail
    go_loopw [5] (fun i wr => ∃ k : Nat, i = .int .i64 k ∧ k ≤ n ∧ Below w.heap.size w wr ∧ Hid (∀ j : Nat, j < k → xs[j]? = ys[j]?)) (fun i _ => n - (intOf i).toNat)
    case atStart => exact ⟨0, rfl, by omega, Below.refl _ _, fun j hj => by omega⟩
    case round =>
      obtain ⟨k, rfl, hk, hb, hc⟩ := hrel
      by_cases hlt : k < n
      · obtain ⟨b1, o1, x, rfl, hx, hx0, hx1, hx2, hx3⟩ := (H1.out.below hb).at_ hlt
        obtain ⟨b2, o2, y, rfl, hy, hy0, hy1, hy2, hy3⟩ := (H2.out.below hb).at_ hlt
        have HXY := Lib.hid (eqM_iff x y)
        obtain ⟨x1, x2, x3, x4⟩ := x
        obtain ⟨y1, y2, y3, y4⟩ := y
        dsimp only at hx0 hx1 hx2 hx3 hy0 hy1 hy2 hy3
        cases hxy : eqM (x1, x2, x3, x4) (y1, y2, y3, y4) with
        | false =>
          have HN := Lib.hid (HB0.out k _ _ hx hy (by have := HXY.out; rw [hxy] at this; intro e; rw [e] at this; simp at this))
          clear hx hy
          go_wp2_with fail
          go_quiet (fail)
          go_wp2_with fail
          go_ret
          exact ⟨by rw [HN.out]; rfl, below_drewN hb _⟩
        | true =>
          have HN : Hid (∀ j : Nat, j < k + 1 → xs[j]? = ys[j]?) := by
            intro j hj
            by_cases hjk : j = k
            · subst hjk; rw [hx, hy]; have := HXY.out; rw [hxy] at this; rw [eq_of_beq this.symm]
            · exact hc.out j (by omega)
          clear hx hy
          go_wp2_with fail
          go_quiet (fail)
          have hb9 : Below w.heap.size w (wr.drewN nq) := below_drewN hb _
          generalize wr.drewN nq = w9 at hb9 ⊢
          go_wp2_with fail
          go_roundw
          case rel => exact ⟨k + 1, by go_num, by omega, hb9, HN.out⟩
          case measure => simp [intOf]; omega
      · have HN : Hid (b = true) := HB1.out (fun j hj => hc.out j (by omega))
        go_wp2_with fail
        go_ret
        exact ⟨by rw [HN.out]; rfl, hb⟩
  · have HB : Hid (b = false) := by
      show _ = _
      rw [← h, beq_eq_false_iff_ne]
      rintro rfl
      exact hnm (by omega)
    have hne : ((n : Int) == (m : Int)) = false := beq_eq_false_iff_ne.2 (by omega)
    have hne2 : ((n : Int) != (m : Int)) = true := by rw [bne, hne]; rfl
    clear h hnm l1 l2 h1 h2
    go_enter Tryz.func15, Tryz.ntmps15
    go_wp2_with fail
    go_ret
    exact ⟨by rw [HB.out]; rfl, Below.refl _ _⟩
/-- The payloads, a blank behind each. -/
def saidL (L : List Ms) : List UInt8 := L.flatMap fun m => m.2.1 ++ [32]
theorem said_take (L : List Ms) (k : Nat) (m : Ms) (h : L[k]? = some m) : saidL (L.take (k + 1)) = saidL (L.take k) ++ m.2.1 ++ [32] := by
  unfold saidL
  rw [List.take_add_one, h]
  simp
theorem said_le (L : List Ms) (k : Nat) : (saidL (L.take k)).length ≤ (saidL L).length := by
  have : saidL L = saidL (L.take k) ++ saidL (L.drop k) := by
    unfold saidL
    rw [← List.flatMap_append, List.take_append_drop]
  rw [this, List.length_append]
  omega
theorem said_eq (A : Option Addr) (n c : Nat) (L : List Ms) (S : List UInt8) (w : World) (hs : Msgs w A n L) (hn : n ≤ 1000000) (hS : saidL L = S) (hl : S.length ≤ 1000000) :
    Calls Tryz.prog 20 #[.slice A n c] w fun e w' => e = .returned (.string ⟨S.toArray⟩) ∧ w = w' := by
  have HS := Lib.hid hs
  have HL := Lib.hid hs.len
  have HX := Lib.hid hS
  clear hs hS
  go_enter Tryz.func20, Tryz.ntmps20
  go_wp2_with fail
  go_loop [3, 4] (fun s i => ∃ (k : Nat) (T : List UInt8), s = .string ⟨T.toArray⟩ ∧ i = .int .i64 k ∧ k ≤ n ∧ Hid (saidL (L.take k) = T)) (fun s i => n - (intOf i).toNat)
  case atStart => exact ⟨0, [], rfl, rfl, by omega, rfl⟩
  case round =>
    obtain ⟨k, T, rfl, rfl, hk, hT⟩ := hrel
    by_cases hlt : k < n
    · obtain ⟨b1, o1, x, rfl, hx, c0, c1, c2, c3⟩ := HS.out.at_ hlt
      obtain ⟨x1, x2, x3, x4⟩ := x
      dsimp only at c0 c1 c2 c3
      have h1 := said_take L k _ hx
      have h2 := said_le L (k + 1)
      rw [h1, hT.out, HX.out] at h2
      dsimp only at h1 h2
      rw [List.length_append, List.length_append, List.length_singleton] at h2
      have HN : Hid (saidL (L.take (k + 1)) = T ++ (x2 ++ [32])) := by show _ = _; rw [h1, hT.out, List.append_assoc]
      have a1 := add_str (P := Tryz.prog) w T x2 (by omega)
      have a2 := add_str (P := Tryz.prog) w (T ++ x2) [32] (by rw [List.length_append]; simp; omega)
      clear hx h1 h2
      go_wp2_with fail
      go_round
      case rel => exact ⟨k + 1, _, rfl, by go_num, by omega, HN⟩
      case measure => simp [intOf]; omega
    · have HN : Hid (T = S) := by
        show _ = _
        rw [← hT.out, ← HX.out, List.take_of_length_le (by rw [HL.out]; omega)]
      go_wp2_with fail
      go_ret
      exact ⟨by rw [HN.out]; rfl, rfl⟩
end Go.Proofs.YthhadjnffeadfaaGreatDoor
