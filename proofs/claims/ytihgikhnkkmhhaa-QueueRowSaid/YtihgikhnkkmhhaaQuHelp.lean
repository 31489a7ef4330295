/-
  queue's statements: what their helpers answer.
-/
import Derived.Test.YtihgikhnkkmhhaaQuAll
import Derived.Test.YtihgikhnkkmhhaaQuActs
set_option linter.unusedSimpArgs false
set_option linter.unusedVariables false
namespace Go.Proofs.Ytihgikhnkkmhhaa
open Go.RowKit

/-- A number as two bytes. -/
def numQ (n : Nat) : List UInt8 := [toB (n / 256 : Nat), toB (n % 256 : Nat)]
theorem number_eq (n : Nat) (w : World) (h : n ≤ 65535) :
    Calls Try.prog 23 #[.int .i64 (n : Nat)] w fun e w' => e = .returned (.string ⟨(numQ n).toArray⟩) ∧ Below w.heap.size w w' := by
  obtain ⟨a, ha⟩ : ∃ a, n / 256 = a := ⟨_, rfl⟩
  obtain ⟨b, hb⟩ : ∃ b, n % 256 = b := ⟨_, rfl⟩
  have q1 : (n : Int) / 256 = (a : Int) := by omega
  have q2 : (n : Int) % 256 = (b : Int) := by omega
  have q3 : Int.tdiv (n : Int) 256 = (a : Int) := by rw [Int.tdiv_eq_ediv_of_nonneg (by omega)]; exact q1
  have q4 : Int.tmod (n : Int) 256 = (b : Int) := by rw [Int.tmod_eq_emod_of_nonneg (by omega)]; exact q2
  have i1 : IntKind.u8.wrap (a : Int) = (a : Int) := IntWalk.u8_in _ (by omega)
  have i2 : IntKind.u8.wrap (b : Int) = (b : Int) := IntWalk.u8_in _ (by omega)
  have hcv := conv_new2 (P := Try.prog) (T := 53) (E := 5) (S := 9) Try.underlying53 Try.underlying5 Try.underlying9 w a b (by omega) (by omega) (by omega) (by omega)
  have HQ : Hid (numQ n = [toB (a : Nat), toB (b : Nat)]) := by unfold numQ; rw [ha, hb]; exact rfl
  clear ha hb
  go_enter Try.func23, Try.ntmps23
  go_wp2_with fail
  go_ret
  exact ⟨by rw [HQ.out]; rfl, below_alloc (Below.refl _ _) _⟩
theorem message_eq (s : List UInt8) (w : World) :
    Calls Try.prog 12 #[.string ⟨s.toArray⟩] w fun e w' => e = .returned (msG (s, [], 0, false)) ∧ Below w.heap.size w w' := by
  have hX : BxM (w.alloc (.cells #[.string ⟨#[]⟩, .string ⟨#[]⟩, .int .u8 0, .bool false] 28)) w.heap.size nilMs := BxM.new w nilMs
  have hS := BxM.new w (s, [], 0, false)
  go_enter Try.func12, Try.ntmps12
  go_wp2_with fail
  refine ret_ms (m := (s, [], 0, false)) 2 rfl rfl hS rfl ⟨rfl, ?_⟩
  exact below_alloc (Below.refl _ _) _
theorem message_any (s : List UInt8) (w : World) :
    Calls Try.prog 12 #[.string ⟨s.toArray⟩] w fun e w' => e = .returned (.agg #[.string ⟨s.toArray⟩, .string ⟨#[]⟩, .int .u8 0, .bool false]) ∧ Below w.heap.size w w' := message_eq s w
/-- Few and small enough. -/
def AqOk (l : List Aq) : Prop := l.length ≤ 2500 ∧ ∀ x ∈ l, x.m.1.length + x.m.2.1.length ≤ 200
def G12 (l : List Aq) (w : World) (e : Ending) (w' : World) : Prop := ∃ b, e = .returned (.bool b) ∧ (b = false → AqOk l) ∧ Below w.heap.size w w'
set_option maxHeartbeats 1000000 in
theorem great12_any (A : Option Addr) (n c : Nat) (l : List Aq) (w : World) (hs : Aqs w A n l) (hn : n ≤ 9223372036854775807) (hi : Hid (∀ x ∈ l, AqIn x)) :
    Calls Try.prog 18 #[.slice A n c] w fun e w' => G12 l w e w' := by
  have HL := Lib.hid hs.len
  have HS := Lib.hid hs
  clear hs
  by_cases h0 : 2500 < n
  · have i0 : (2500 : Int) < (n : Int) := by omega
    go_enter Try.func18, Try.ntmps18
    go_wp2_with fail
    go_ret
    exact ⟨true, rfl, (fun h => by cases h), Below.refl _ _⟩
  · have i0 : ¬ (2500 : Int) < (n : Int) := by omega
    go_enter Try.func18, Try.ntmps18
    go_wp2_with fail
    go_loopw [3] (fun i wr => ∃ k : Nat, i = .int .i64 k ∧ k ≤ n ∧ Below w.heap.size w wr ∧ Hid (∀ (j : Nat) (x : Aq), j < k → l[j]? = some x → x.m.1.length + x.m.2.1.length ≤ 200)) (fun i _ => n - (intOf i).toNat)
    case atStart => exact ⟨0, rfl, by omega, Below.refl _ _, fun j x hj => by omega⟩
    case round =>
      obtain ⟨k, rfl, hk, hb, hc⟩ := hrel
      by_cases hlt : k < n
      · obtain ⟨b1, o1, x, rfl, hx, c0, c1, c2, c3, c4⟩ := (HS.out.below hb).at_ hlt
        obtain ⟨_, _, _, _, hf, hcl⟩ := hi.out x (List.mem_of_getElem? hx)
        obtain ⟨xk, xf, xc, xq, xb⟩ := x
        have HX := Lib.hid hx
        dsimp only at hf hcl c0 c1 c2 c3 c4
        have hw := IntWalk.i64_in ((xf.length : Int) + (xc.length : Int)) (by omega)
        clear hx
        by_cases h1 : 200 < xf.length + xc.length
        · have i1 : (200 : Int) < (xf.length : Int) + (xc.length : Int) := by omega
          go_wp2_with fail
          go_quiet (fail)
          go_wp2_with fail
          go_ret
          exact ⟨true, rfl, (fun h => by cases h), below_drewN hb _⟩
        · have i1 : ¬ (200 : Int) < (xf.length : Int) + (xc.length : Int) := by omega
          have HN : Hid (∀ (j : Nat) (y : Aq), j < k + 1 → l[j]? = some y → y.m.1.length + y.m.2.1.length ≤ 200) := by
            intro j y hj hy
            by_cases hjk : j = k
            · subst hjk; rw [HX.out] at hy; cases hy
              show xf.length + xc.length ≤ 200
              omega
            · exact hc.out j y (by omega) hy
          go_wp2_with fail
          go_quiet (fail)
          have hb9 : Below w.heap.size w (wr.drewN nq) := below_drewN hb _
          generalize wr.drewN nq = w9 at hb9 ⊢
          go_wp2_with fail
          go_roundw
          case rel => exact ⟨k + 1, by go_num, by omega, hb9, HN.out⟩
          case measure => simp [intOf]; omega
      · have HA : Hid (∀ x ∈ l, x.m.1.length + x.m.2.1.length ≤ 200) := by
          intro x hx
          obtain ⟨j, hj, e⟩ := List.mem_iff_getElem.1 hx
          exact hc.out j x (by rw [HL.out] at hj; omega) (by rw [List.getElem?_eq_getElem hj, e])
        go_wp2_with fail
        go_ret
        exact ⟨false, rfl, fun _ => ⟨by rw [HL.out]; omega, HA.out⟩, hb⟩
theorem same12_eq (A : Option Addr) (n c : Nat) (xs : List Ms) (B : Option Addr) (m d : Nat) (ys : List Ms) (b : Bool) (w : World) (h1 : Msgs w A n xs) (h2 : Msgs w B m ys) (hn : n ≤ 1000000000) (h : (xs == ys) = b) :
    Calls Try.prog 22 #[.slice A n c, .slice B m d] w fun e w' => e = .returned (.bool b) ∧ Below w.heap.size w w' := by
  have l1 := h1.len
  have l2 := h2.len
  by_cases hnm : n = m
  · subst hnm
    have HB0 : Hid (∀ (k : Nat) (x y : Ms), xs[k]? = some x → ys[k]? = some y → x ≠ y → b = false) := by
      intro k x y hx hy hne
      rw [← h, beq_eq_false_iff_ne]
      rintro rfl
      rw [hx] at hy
      cases hy
      exact hne rfl
    have HB1 : Hid ((∀ k : Nat, k < n → xs[k]? = ys[k]?) → b = true) := by
      intro he
      rw [← h, beq_iff_eq]
      apply List.ext_getElem?
      intro i
      by_cases hi : i < n
      · exact he i hi
      · rw [List.getElem?_eq_none (by omega), List.getElem?_eq_none (by omega)]
    clear h l1 l2
    have H1 := Lib.hid h1
    have H2 := Lib.hid h2
    clear h1 h2
    go_enter Try.func22, Try.ntmps22
    go_wp2_with fail
    go_loopw [5] (fun i wr => ∃ k : Nat, i = .int .i64 k ∧ k ≤ n ∧ Below w.heap.size w wr ∧ Hid (∀ j : Nat, j < k → xs[j]? = ys[j]?)) (fun i _ => n - (intOf i).toNat)
    case atStart => exact ⟨0, rfl, by omega, Below.refl _ _, fun j hj => by omega⟩
    case round =>
      obtain ⟨k, rfl, hk, hb, hc⟩ := hrel
      by_cases hlt : k < n
      · obtain ⟨b1, o1, x, rfl, hx, hx0, hx1, hx2, hx3⟩ := (H1.out.below hb).at_ hlt
        obtain ⟨b2, o2, y, rfl, hy, hy0, hy1, hy2, hy3⟩ := (H2.out.below hb).at_ hlt
        have HXY := Lib.hid (eqM_iff x y)
        obtain ⟨x1, x2, x3, x4⟩ := x
        obtain ⟨y1, y2, y3, y4⟩ := y
        dsimp only at hx0 hx1 hx2 hx3 hy0 hy1 hy2 hy3
        cases hxy : eqM (x1, x2, x3, x4) (y1, y2, y3, y4) with
        | false =>
          have HN := Lib.hid (HB0.out k _ _ hx hy (by have := HXY.out; rw [hxy] at this; intro e; rw [e] at this; simp at this))
          clear hx hy
          go_wp2_with fail
          go_quiet (fail)
          go_wp2_with fail
          go_ret
          exact ⟨by rw [HN.out]; rfl, below_drewN hb _⟩
        | true =>
          have HN : Hid (∀ j : Nat, j < k + 1 → xs[j]? = ys[j]?) := by
            intro j hj
            by_cases hjk : j = k
            · subst hjk; rw [hx, hy]; have := HXY.out; rw [hxy] at this; rw [eq_of_beq this.symm]
            · exact hc.out j (by omega)
          clear hx hy
          go_wp2_with fail
          go_quiet (fail)
          have hb9 : Below w.heap.size w (wr.drewN nq) := below_drewN hb _
          generalize wr.drewN nq = w9 at hb9 ⊢
          go_wp2_with fail
          go_roundw
          case rel => exact ⟨k + 1, by go_num, by omega, hb9, HN.out⟩
          case measure => simp [intOf]; omega
      · have HN : Hid (b = true) := HB1.out (fun j hj => hc.out j (by omega))
        go_wp2_with fail
        go_ret
        exact ⟨by rw [HN.out]; rfl, hb⟩
  · have HB : Hid (b = false) := by
      show _ = _
      rw [← h, beq_eq_false_iff_ne]
      rintro rfl
      exact hnm (by omega)
    have hne : ((n : Int) == (m : Int)) = false := beq_eq_false_iff_ne.2 (by omega)
    have hne2 : ((n : Int) != (m : Int)) = true := by rw [bne, hne]; rfl
    clear h hnm l1 l2 h1 h2
    go_enter Try.func22, Try.ntmps22
    go_wp2_with fail
    go_ret
    exact ⟨by rw [HB.out]; rfl, Below.refl _ _⟩
end Go.Proofs.Ytihgikhnkkmhhaa
