/-
  KeepOne: what is set of one topic changes no other one; taken away it is as if it had never been set. The card, without a bound: for every input.
-/
import Derived.Test.YthhadjnffeadfaaDoorKpAwake
import Derived.Test.YthhadjnffeadfaaDoorWrFrame
import Derived.Test.YthhadjnffeadfaaDoorTie
import Derived.Test.YthhadjnffeadfaaDoorCards
import Derived.SevenTiedAt
import Derived.ProofKit
set_option linter.unusedSimpArgs false
set_option linter.unusedVariables false
namespace Go.Proofs.YthhadjnffeadfaaDoor
open Go.RowKit Go.ChangeShapes Go.WideShapes Go.ChangeAt Go.Deep
open Go.ChangeMaps (open_string shut_string)
section
variable {H : Type} {enc : TypeId × Value → H}
set_option maxRecDepth 100000 in
theorem open_Ms {W : World} {base : Nat} {v : Value} {d : DataW H} {pl : List MemPlace} {sp : Nat → Bool} {hd : Bool}
    (hok : Value.okWide Tryd.prog W .any base 28 v) (h : DataW.Trod enc Tryd.prog W 0 sp hd 28 v d pl) : ∃ m : Ms, v = .agg #[.string ⟨m.1.toArray⟩, .string ⟨m.2.1.toArray⟩, .int .u8 m.2.2.1, .bool m.2.2.2] ∧ MIn m := by
  obtain ⟨cs, rfl, hsz⟩ := okWide_struct Tryd.underlying28 hok
  obtain ⟨fuel, hf⟩ := h
  have h4 : cs.toList.length = 4 := by rw [Array.length_toList]; exact hsz.trans (show Tryd.prog.cellsOf 28 = 4 by kernel_rfl)
  obtain ⟨v0, v1, v2, v3, hcs⟩ : ∃ v0 v1 v2 v3, cs.toList = [v0, v1, v2, v3] := by
    match hl : cs.toList, h4 with
    | [a, b, c, d], _ => exact ⟨a, b, c, d, rfl⟩
  have hf2 : DataW.trod enc Tryd.prog W 0 sp hd fuel 28 [v0, v1, v2, v3] = some (d, pl) := by rw [← hcs]; exact hf
  obtain ⟨ys, n', hn', hy, hlen, hyl, hfi⟩ := DataW.trod_struct Tryd.underlying28 hf2
  have key : ∀ (j : Nat) (f : Field), (Tryd.prog.fieldsOf 28)[j]? = some f → ∀ v, [v0, v1, v2, v3][j]? = some v → ∃ y, DataW.trod enc Tryd.prog W 0 sp hd n' f.type [v] = some y := by
    intro j f hj v hv
    have hone : oneCellFields Tryd.prog (Tryd.prog.fieldsOf 28) = true := by kernel_rfl
    obtain ⟨ho, hk⟩ := hone_of hone j f hj
    have h1 := hfi j f hj
    rw [ho, hk] at h1
    have hjl : j < 4 := (List.getElem?_eq_some_iff.1 hv).1
    have e1 : ([v0, v1, v2, v3].drop j).take 1 = [v] := by
      obtain ⟨hlt, hv2⟩ := List.getElem?_eq_some_iff.1 hv
      rw [List.drop_eq_getElem_cons hlt, hv2]
      rfl
    rw [e1] at h1
    have hjy : j < ys.length := by
      have h9 : ys.length = 4 := by rw [hyl]; kernel_rfl
      omega
    exact ⟨_, h1.trans (List.getElem?_eq_getElem hjy)⟩
  obtain ⟨y0, t0⟩ := key 0 _ rfl v0 rfl
  obtain ⟨y1, t1⟩ := key 1 _ rfl v1 rfl
  obtain ⟨y2, t2⟩ := key 2 _ rfl v2 rfl
  obtain ⟨y3, t3⟩ := key 3 _ rfl v3 rfl
  obtain ⟨s1, es1, _, hs1⟩ := DataW.trod_string Tryd.underlying9 t0
  obtain ⟨s2, es2, _, hs2⟩ := DataW.trod_string Tryd.underlying9 t1
  obtain ⟨q, eq, _, hq⟩ := DataW.trod_int Tryd.underlying5 t2
  obtain ⟨b, eb, _⟩ := DataW.trod_bool Tryd.underlying4 t3
  obtain rfl := (List.cons.inj es1).1
  obtain rfl := (List.cons.inj es2).1
  obtain rfl := (List.cons.inj eq).1
  obtain rfl := (List.cons.inj eb).1
  obtain ⟨l1, rfl, z1⟩ := str_of s1
  obtain ⟨l2, rfl, z2⟩ := str_of s2
  have hqb := u8_bd q hq
  unfold maxLen at hs1 hs2
  refine ⟨(l1, l2, q, b), ?_, hqb.1, hqb.2, by show l1.length ≤ _; omega, by show l2.length ≤ _; omega⟩
  congr 1
  rw [← Array.toArray_toList (xs := cs), hcs]
end
theorem del_take (L : List Ms) (t : List UInt8) (k : Nat) (x : Ms) (h : L[k]? = some x) : delM (L.take (k + 1)) t = if x.1 = t then delM (L.take k) t else delM (L.take k) t ++ [x] := by
  unfold delM
  rw [List.take_add_one, h, List.filter_append]
  by_cases hx : x.1 = t
  · rw [if_pos hx]; simp [hx]
  · rw [if_neg hx]; simp [hx]
theorem one_get {L : List Ms} (h : Srt kB L) {m x : Ms} (hx : x ∈ L) (hne : x.1 ≠ m.1 ∨ mayB m = false) : getM (setM L m) x.1 = some x := by
  cases hm : mayB m with
  | false => rw [set_no hm]; exact (get_some h).2 ⟨hx, rfl⟩
  | true =>
    rcases hne with h1 | h1
    · rw [get_set h hm, if_neg h1]; exact (get_some h).2 ⟨hx, rfl⟩
    · rw [hm] at h1; cases h1
theorem Msgs.outs' {w w' : World} {A : Option Addr} {n : Nat} {L : List Ms} {F : Nat → Prop} (h : Msgs w A n L) (hU : Outs w w' F) (hn : ∀ b o, A = some ⟨b, o, none⟩ → 0 < n → ¬ F b) : Msgs w' A n L :=
  ⟨h.1, fun h0 => by
    obtain ⟨b, off, e, hc⟩ := h.2 h0
    exact ⟨b, off, e, fun j x hx => hU.cell _ _ (hc j x hx) (hn b off e h0)⟩⟩
namespace lawKeepOne
set_option maxRecDepth 100000 in
set_option maxHeartbeats 4000000 in
theorem walk (w : World) (hG : Glo w) (A : Option Addr) (n c : Nat) (l : List Ms) (hs : Msgs w A n l) (hn : n ≤ 9223372036854775807) (hi : Hid (∀ x ∈ l, MIn x)) (m : Ms) (hmi : MIn m) :
    Calls Tryd.prog 6 #[.slice A n c, .agg #[.string ⟨m.1.toArray⟩, .string ⟨m.2.1.toArray⟩, .int .u8 m.2.2.1, .bool m.2.2.2]] w fun e w' => e = .returned (.bool true) ∧ Below w.heap.size w w' := by
  have HG := Lib.hid hG
  obtain ⟨W0, hW0⟩ : ∃ W, W = w.alloc (.cells #[.string ⟨m.1.toArray⟩, .string ⟨m.2.1.toArray⟩, .int .u8 m.2.2.1, .bool m.2.2.2] 28) := ⟨_, rfl⟩
  have hbA : Below w.heap.size w W0 := by rw [hW0]; exact below_alloc (Below.refl _ _) _
  have hX0 : BxM W0 w.heap.size m := by rw [hW0]; exact BxM.new w m
  have HS := Lib.hid (hs.below hbA)
  have HX0 := Lib.hid hX0
  have HMI := Lib.hid hmi
  obtain ⟨m1, m2, m3, m4⟩ := m
  have x0 := hX0.c0; have x1 := hX0.c1; have x2 := hX0.c2; have x3 := hX0.c3
  dsimp only at x0 x1 x2 x3 hW0
  clear hG hs hX0 hmi
  go_enter Tryd.func6, Tryd.ntmps6
  go_wp2_with fail
  rw [← hW0]
  clear hW0
  refine (great10_any A n c l _ HS.out hn hi).mono ?_
  rintro e w0 ⟨g, rfl, hok, rfl⟩
  cases g with
  | true =>
    go_wp2_with fail
    refine (awake10_any _ (HG.out.below hbA)).mono ?_
    rintro e w1 ⟨rfl, hb⟩
    go_wp2_with fail
    go_ret
    exact ⟨rfl, below_more hbA hb⟩
  | false =>
    have HOK := Lib.hid (hok rfl)
    clear hok
    obtain ⟨W1, hW1⟩ : ∃ W, W = W0.alloc (.cells #[.string ⟨m1.toArray⟩, .string ⟨m2.toArray⟩, .int .u8 m3, .bool m4] 28) := ⟨_, rfl⟩
    have hb01 : Below W0.heap.size W0 W1 := by rw [hW1]; exact below_alloc (Below.refl _ _) _
    have hbA1 := below_more hbA hb01
    have hs1 : Msgs W1 (some ⟨W0.heap.size, 0, none⟩) 1 [(m1, m2, m3, m4)] := by rw [hW1]; exact msgs_new W0 (m1, m2, m3, m4) _
    have HS1 := Lib.hid (HS.out.below hb01)
    have HX1 := Lib.hid (HX0.out.below hb01)
    have HI1 : Hid (∀ x ∈ [((m1, m2, m3, m4) : Ms)], MIn x) := fun x hx => by rw [List.mem_singleton] at hx; subst hx; exact HMI.out
    go_wp2_with fail
    rw [← hW1]
    clear hW1 x0 x1 x2 x3 hbA hb01
    have hbA := hbA1
    clear hbA1
    refine (great10_any (some ⟨W0.heap.size, 0, none⟩) 1 1 [(m1, m2, m3, m4)] _ hs1 (by omega) HI1).mono ?_
    rintro e w0 ⟨g, rfl, hok, rfl⟩
    cases g with
    | true =>
      go_wp2_with fail
      refine (awake10_any _ (HG.out.below hbA)).mono ?_
      rintro e w1 ⟨rfl, hb⟩
      go_wp2_with fail
      go_ret
      exact ⟨rfl, below_more hbA hb⟩
    | false =>
      obtain ⟨hm1, hm2⟩ := (hok rfl).2 (m1, m2, m3, m4) (by simp)
      dsimp only at hm1 hm2
      clear hok hs1
      go_wp2_with fail
      refine (made_any A n c l _ HS1.out HOK.out).mono ?_
      rintro e w1 ⟨⟨t, F, rfl, hP, hb1, hF⟩, hk⟩
      obtain ⟨L, hL⟩ : ∃ L, madeM l = L := ⟨_, rfl⟩
      rw [hL] at hP hk
      have HP := Lib.hid hP
      have HK := Lib.hid hk
      have HF := Lib.hid hF
      have HX2 := Lib.hid (HX1.out.below hb1)
      have hbB := below_more hbA hb1
      have hgl : w.heap.size < W1.heap.size := HX1.out.lt
      have hw1 := hb1.size
      clear hP hk hL hF hb1
      go_wp2_with fail
      refine (kAll HP.out HK.out (by omega)).mono ?_
      rintro e w2 ⟨v, rfl, hO⟩
      have hb2 := hO.below
      obtain ⟨A1, c1, rfl, _, hs2, hA1, hg2⟩ := hO.form
      have HP2 := Lib.hid (HP.out.below hb2)
      have HX3 := Lib.hid (HX2.out.below hb2)
      have HS2 := Lib.hid hs2
      have hbC := below_more hbB hb2
      have HG2 := Lib.hid hg2
      have hw2 := hb2.size
      obtain ⟨N, hN⟩ : ∃ N, L.length = N := ⟨_, rfl⟩
      rw [hN] at HS2 ⊢
      have hN60 : N ≤ 60 := by rw [← hN]; exact HK.out.2.1
      have HN := Lib.hid hN
      obtain ⟨r, hr⟩ : ∃ r, mayB (m1, m2, m3, m4) = r := ⟨_, rfl⟩
      obtain ⟨M, hM⟩ : ∃ M, setM L (m1, m2, m3, m4) = M := ⟨_, rfl⟩
      have HR := Lib.hid hr
      have HM := Lib.hid hM
      have HKM : Hid (KsOk 61 M) := by show KsOk _ _; rw [← hM]; exact HK.out.set hm1 hm2
      have x0 := HX3.out.c0; have x1 := HX3.out.c1; have x2 := HX3.out.c2; have x3 := HX3.out.c3
      dsimp only at x0 x1 x2 x3
      clear hO hb2 hs2 hg2 hN hr hM hbA hbB hA1
      go_wp2_with fail
      refine (kSet_any HP2.out HK.out.1 (by have := HK.out.2.1; omega) (m1, m2, m3, m4) M r (by dsimp only; omega) (by dsimp only; omega) HM.out HR.out).mono ?_
      rintro e w3 ⟨F3, rfl, hP3, hU3, hF3⟩
      have HFA : Hid (∀ b o, A1 = some ⟨b, o, none⟩ → ¬ F b) := fun b o e hf => by have h1 := HP.out.lt b hf; have h2 := HG2.out b o e; omega
      have hgF : ¬ F w.heap.size := fun hf => by have := HF.out _ hf; omega
      have HP3 := Lib.hid hP3
      have HS3 := Lib.hid (HS2.out.outs hU3 HFA.out)
      have HX4 := Lib.hid (HX3.out.outs hU3 hgF)
      have HF3 : Hid (∀ b, F3 b → W1.heap.size ≤ b) := fun b hb => by
        rcases hF3 b hb with h2 | h2
        · exact HF.out b h2
        · omega
      have HA3 : Hid (∀ b o, A1 = some ⟨b, o, none⟩ → 0 < N → ¬ F3 b) := fun b o e h0 hf => by
        rcases hF3 b hf with h2 | h2
        · exact HFA.out b o e h2
        · obtain ⟨b1, o1, _, e1, _, hat⟩ := HS2.out.at_ h0
          rw [e] at e1
          cases e1
          have := hat.lt
          omega
      have hb3 := hbC.trans (hU3.below (B := w.heap.size) (fun b _ h => by have := HF.out b h; omega) hbC.size)
      have hw3 := hU3.size
      clear hP3 hU3 hF3 hbC x0 x1 x2 x3
      go_wp2_with fail
      go_loopw [8] (fun i wr => ∃ k : Nat, i = .int .i64 k ∧ k ≤ N ∧ Below w.heap.size w wr ∧ Below w3.heap.size w3 wr) (fun i _ => N - (intOf i).toNat)
      case atStart => exact ⟨0, rfl, by omega, hb3, Below.refl _ _⟩
      case round =>
        obtain ⟨k, rfl, hk, hbw, hb7⟩ := hrel
        by_cases hlt : k < N
        · obtain ⟨b1, o1, x, rfl, hx, hat⟩ := (HS3.out.below hb7).at_ hlt
          have hmem := List.mem_of_getElem? hx
          have hxl := (HK.out.2.2 x hmem).2.2.2.1
          obtain ⟨y, hy⟩ : ∃ y, (getM M x.1).getD zMs = y := ⟨_, rfl⟩
          obtain ⟨s, hs⟩ : ∃ s, (getM M x.1).isSome = s := ⟨_, rfl⟩
          have HYS : Hid (x.1 ≠ m1 ∨ r = false → y = x ∧ s = true) := fun h => by
            have := one_get (m := (m1, m2, m3, m4)) HK.out.1 hmem (h.imp id (fun e => HR.out.trans e))
            rw [HM.out] at this
            rw [this] at hy hs
            exact ⟨hy.symm, hs.symm⟩
          have HAT := Lib.hid hat
          have HGY := Lib.hid hy
          have HGS := Lib.hid hs
          have HP4 := Lib.hid (HP3.out.below hb7)
          have HX5 := Lib.hid (HX4.out.below hb7)
          have hkI : (k : Int) < (N : Int) := by omega
          have hk0 : (0 : Int) ≤ (k : Int) := by omega
          obtain ⟨x1, x2, x3, x4⟩ := x
          obtain ⟨q0, q1, q2, q3⟩ := hat
          dsimp only at hxl q0 q1 q2 q3 HYS HGY HGS
          clear hx hmem hy hs
          go_wp2_with fail
          refine (kGet HP4.out x1 y s (by omega) HGY.out HGS.out).mono ?_
          rintro e w4 ⟨rfl, hb8⟩
          obtain ⟨y1, y2, y3, y4⟩ := y
          obtain ⟨W5, hW5⟩ : ∃ W, W = w4.alloc (.cells #[.string ⟨y1.toArray⟩, .string ⟨y2.toArray⟩, .int .u8 y3, .bool y4] 28) := ⟨_, rfl⟩
          have hb45 : Below w4.heap.size w4 W5 := by rw [hW5]; exact below_alloc (Below.refl _ _) _
          have hY5 : BxM W5 w4.heap.size (y1, y2, y3, y4) := by rw [hW5]; exact BxM.new w4 (y1, y2, y3, y4)
          have hb9 := below_more (below_more hbw hb8) hb45
          have hb10 := below_more (below_more hb7 hb8) hb45
          obtain ⟨q0, q1, q2, q3⟩ := (HAT.out.below hb8).below hb45
          have X5 := (HX5.out.below hb8).below hb45
          have z0 := X5.c0
          have y5 := hY5.c0; have y6 := hY5.c1; have y7 := hY5.c2; have y8 := hY5.c3
          dsimp only at q0 q1 q2 q3 z0 y5 y6 y7 y8 HYS ⊢
          clear hb8 hb45 X5 hY5 hbw hb7
          have hb11 : ∀ N, Below w.heap.size w (W5.drewN N) := fun N => below_drewN hb9 N
          have hb12 : ∀ N, Below w3.heap.size w3 (W5.drewN N) := fun N => below_drewN hb10 N
          by_cases hxm : x1 = m1
          · subst hxm
            have d1 : (x1 != x1) = false := by simp
            cases r with
            | true =>
              go_wp2_with fail
              rw [← hW5]
              clear hW5
              go_quiet (fail)
              have e11 := hb11 nq
              have e12 := hb12 nq
              generalize W5.drewN nq = w9 at e11 e12 ⊢
              clear hb11 hb12 q0 q1 q2 q3 z0 y5 y6 y7 y8
              go_wp2_with fail
              go_roundw
              case rel => exact ⟨k + 1, by go_num, by omega, e11, e12⟩
              case measure => simp [intOf]; omega
            | false =>
              obtain ⟨e1, rfl⟩ := HYS.out (Or.inr rfl)
              cases e1
              have hxx : eqM (x1, x2, x3, x4) (x1, x2, x3, x4) = true := by rw [eqM_iff]; simp
              go_wp2_with fail
              rw [← hW5]
              clear hW5
              go_quiet (fail)
              have e11 := hb11 nq
              have e12 := hb12 nq
              generalize W5.drewN nq = w9 at e11 e12 ⊢
              clear hb11 hb12 q0 q1 q2 q3 z0 y5 y6 y7 y8
              go_wp2_with fail
              go_roundw
              case rel => exact ⟨k + 1, by go_num, by omega, e11, e12⟩
              case measure => simp [intOf]; omega
          · have d1 : (x1 != m1) = true := by simpa using hxm
            have d2 : (x1 == m1) = false := by simpa using hxm
            obtain ⟨e1, rfl⟩ := HYS.out (Or.inl hxm)
            cases e1
            have hxx : eqM (x1, x2, x3, x4) (x1, x2, x3, x4) = true := by rw [eqM_iff]; simp
            go_wp2_with fail
            rw [← hW5]
            clear hW5
            go_quiet (fail)
            have e11 := hb11 nq
            have e12 := hb12 nq
            generalize W5.drewN nq = w9 at e11 e12 ⊢
            clear hb11 hb12 q0 q1 q2 q3 z0 y5 y6 y7 y8
            go_wp2_with fail
            go_roundw
            case rel => exact ⟨k + 1, by go_num, by omega, e11, e12⟩
            case measure => simp [intOf]; omega
        · have HP4 := Lib.hid (HP3.out.below hb7)
          have HS4 := Lib.hid (HS3.out.below hb7)
          have HX5 := Lib.hid (HX4.out.below hb7)
          cases r with
          | false =>
            have HML : Hid ((M == L) = true) := by show _ = _; rw [← HM.out, set_no HR.out]; simp
            go_wp2_with fail
            refine (kAll HP4.out HKM.out (by omega)).mono ?_
            rintro e w8 ⟨v, rfl, hO⟩
            have hb8 := hO.below
            obtain ⟨A8, c8, rfl, _, hs8, _, _⟩ := hO.form
            have HS8 := Lib.hid hs8
            have HS5 := Lib.hid (HS4.out.below hb8)
            have hb9 := below_more hbw hb8
            have hMl : M.length ≤ 61 := HKM.out.2.1
            clear hO hs8 hb8 hbw
            go_wp2_with fail
            refine (sameMsgs_eq A8 _ c8 M A1 N c1 L true _ HS8.out HS5.out (by omega) HML.out).mono ?_
            rintro e w10 ⟨rfl, hb10⟩
            have hb11 := below_more hb9 hb10
            clear hb9 hb10
            go_wp2_with fail
            refine (awake10_any _ (HG.out.below hb11)).mono ?_
            rintro e w12 ⟨rfl, hb12⟩
            go_wp2_with fail
            go_ret
            exact ⟨rfl, below_more hb11 hb12⟩
          | true =>
            obtain ⟨W6, hW6⟩ : ∃ W, W = wr.setCell ⟨w.heap.size, 1, none⟩ (.string ⟨#[]⟩) := ⟨_, rfl⟩
            have hU6 : Outs wr W6 (fun x => x = w.heap.size) := by rw [hW6]; exact (Outs.refl wr (fun x => x = w.heap.size)).setCell w.heap.size 1 rfl _
            have HX6 : Hid (BxM W6 w.heap.size (m1, [], m3, m4)) := by show BxM _ _ _; rw [hW6]; exact HX5.out.set1 []
            have HP6 : Hid (KP W6 t F3 M) := HP4.out.outs hU6 (fun x hx e => by have := HF3.out x hx; omega)
            have HS6 : Hid (Msgs W6 A1 N L) := HS4.out.outs hU6 (fun b o e e2 => by have := HG2.out b o e; omega)
            have hb6 : Below w.heap.size w W6 := by rw [hW6]; exact hbw.setCell (p := ⟨w.heap.size, 1, none⟩) (Nat.le_refl _) _
            have hs6 : wr.heap.size = W6.heap.size := by rw [hW6]; simp [World.setCell]
            have v0 := HX5.out.c1; have vf := HX5.out.fr 1
            have z0 := HX6.out.c0; have z1 := HX6.out.c1; have z2 := HX6.out.c2; have z3 := HX6.out.c3
            dsimp only at v0 z0 z1 z2 z3
            rw [hW6] at z0 z1 z2 z3
            obtain ⟨M2, hM2⟩ : ∃ M2, delM L m1 = M2 := ⟨_, rfl⟩
            have HM2 := Lib.hid hM2
            have hgo : setM M (m1, [], m3, m4) = M2 := by rw [← HM.out, ← hM2]; exact set_gone (m := (m1, m2, m3, m4)) HK.out.1 HR.out
            have HGO := Lib.hid hgo
            have HY2 : Hid (mayB (m1, [], m3, m4) = true) := HR.out
            have HKM2 : Hid (KsOk 62 M2) := by show KsOk _ _; rw [← hgo]; exact HKM.out.set hm1 (by simp)
            clear hbw hU6 hM2 hgo
            go_wp2_with fail
            rw [← hW6]
            clear z0 z1 z2 z3 v0 vf hW6
            refine (kSet_any HP6.out HKM.out.1 (by have := HKM.out.2.1; omega) (m1, [], m3, m4) M2 true (by dsimp only; omega) (by simp) HGO.out HY2.out).mono ?_
            rintro e w7 ⟨F7, rfl, hP7, hU7, hF7⟩
            have HP7 := Lib.hid hP7
            have HS7 : Hid (Msgs w7 A1 N L) := ⟨HN.out, fun h0 => (HS6.out.outs' hU7 HA3.out).2 h0⟩
            have HX7 : Hid (BxM w7 w.heap.size (m1, [], m3, m4)) := HX6.out.outs hU7 (fun hf => by have := HF3.out _ hf; omega)
            have hb8 := hb6.trans (hU7.below (B := w.heap.size) (fun b _ h => by have := HF3.out b h; omega) hb6.size)
            clear hP7 hU7 hF7 hb6
            go_wp2_with fail
            go_loopw [11, 12] (fun v i wr => ∃ k : Nat, i = .int .i64 k ∧ k ≤ N ∧ OwnM w7.heap.size w7 wr v (delM (L.take k) m1)) (fun v i _ => N - (intOf i).toNat)
            case atStart => exact ⟨0, rfl, by omega, OwnM.nil (Below.refl _ _) (Nat.le_refl _)⟩
            case round =>
              obtain ⟨k, rfl, hk, hO⟩ := hrel
              have hbo := hO.below
              have HO := Lib.hid hO
              have hdl : (delM (L.take k) m1).length ≤ 60 := by
                have h1 : (delM (L.take k) m1).length ≤ (L.take k).length := List.length_filter_le _ _
                rw [List.length_take] at h1
                omega
              by_cases hlt : k < N
              · obtain ⟨b1, o1, x, rfl, hx, hat⟩ := (HS7.out.below hbo).at_ hlt
                have hdt := del_take L m1 k x hx
                have HAT := Lib.hid hat
                have z0 := (HX7.out.below hbo).c0
                have hkI : (k : Int) < (N : Int) := by omega
                have hk0 : (0 : Int) ≤ (k : Int) := by omega
                obtain ⟨x1, x2, x3, x4⟩ := x
                obtain ⟨q0, q1, q2, q3⟩ := hat
                dsimp only at q0 q1 q2 q3 z0 hdt
                clear hx hbo hO
                by_cases hxm : x1 = m1
                · subst hxm
                  have d1 : (x1 != x1) = false := by simp
                  rw [if_pos rfl] at hdt
                  have HDT := Lib.hid hdt
                  clear hdt
                  go_wp2_with fail
                  go_quiet (fail)
                  have e1 := HO.out.drewN nq
                  generalize wr.drewN nq = w9 at e1 ⊢
                  clear q0 q1 q2 q3 z0
                  go_wp2_with fail
                  go_roundw
                  case rel => exact ⟨k + 1, by go_num, by omega, by rw [HDT.out]; exact e1⟩
                  case measure => simp [intOf]; omega
                · have d1 : (x1 != m1) = true := by simpa using hxm
                  have d2 : (x1 == m1) = false := by simpa using hxm
                  rw [if_neg hxm] at hdt
                  have HDT := Lib.hid hdt
                  clear hdt
                  go_wp2_with fail
                  go_quiet (fail)
                  have e1 := HO.out.drewN nq
                  obtain ⟨q0, q1, q2, q3⟩ := HAT.out.below (below_drewN (Below.refl wr.heap.size wr) nq)
                  dsimp only at q0 q1 q2 q3
                  generalize wr.drewN nq = w9 at e1 q0 q1 q2 q3 ⊢
                  have E1 := Lib.hid e1
                  clear z0 e1
                  go_wp2_with (at_builtin; refine wpList_mapp rfl _ _ rfl rfl (E1.out.alloc _) _ 1 1 [(x1, x2, x3, x4)] rfl (msgs_new w9 (x1, x2, x3, x4) _) (fun e => by cases e) (by omega) ?_; intro v8 w8 hO8 hgr8)
                  go_wp2_with fail
                  go_roundw
                  case rel => exact ⟨k + 1, by go_num, by omega, by rw [HDT.out]; exact hO8⟩
                  case measure => simp [intOf]; omega
              · have hkN : L.take k = L := List.take_of_length_le (by rw [HN.out]; omega)
                rw [hkN, HM2.out] at hO
                obtain ⟨A9, c9, rfl, _, hs9, _, _⟩ := hO.form
                have hb9 := hb8.trans (hbo.mono hb8.size)
                have HP9 := Lib.hid (HP7.out.below hbo)
                have HS9 := Lib.hid hs9
                have hM2l : M2.length ≤ 62 := HKM2.out.2.1
                clear hO hbo hs9 HO hdl
                go_wp2_with fail
                refine (kAll HP9.out HKM2.out (by omega)).mono ?_
                rintro e w10 ⟨v, rfl, hO⟩
                have hb10 := hO.below
                obtain ⟨A10, c10, rfl, _, hs10, _, _⟩ := hO.form
                have HS10 := Lib.hid hs10
                have HS11 := Lib.hid (HS9.out.below hb10)
                have hb11 := below_more hb9 hb10
                clear hO hs10 hb10 hb9
                go_wp2_with fail
                refine (sameMsgs_eq A10 _ c10 M2 A9 _ c9 M2 true _ HS10.out HS11.out (by omega) (by simp)).mono ?_
                rintro e w12 ⟨rfl, hb12⟩
                have hb13 := below_more hb11 hb12
                clear hb11 hb12
                go_wp2_with fail
                refine (awake10_any _ (HG.out.below hb13)).mono ?_
                rintro e w14 ⟨rfl, hb14⟩
                go_wp2_with fail
                go_ret
                exact ⟨rfl, below_more hb13 hb14⟩
set_option maxRecDepth 100000 in
theorem lifted (os : Os) (started : os.Started) (H : Type) (enc : TypeId × Value → H) :
    ReturnsInHanded {} Tryd.checked os 6 .any (fun w args => (Rows.keepOneSpec.pre enc Tryd.prog Tryd.f6 [] false w args ∧ laidMetH Tryd.prog laidL w) ∧ sizedMet enc Tryd.prog Tryd.f6 (OpenSpec.ofChange Rows.keepOneSpec) false w args)
      (Rows.keepOneSpec.post enc Tryd.prog Tryd.f6 false true false false) := by
  refine handed_laid (C := Tryd.checked) (X := fun w _ => laidMetH Tryd.prog laidL w) own_none started (by kernel_rfl) Tryd.func6 (laid_witness os Rows.keepOneSpec #[.slice none 0 0, .agg #[.string ByteArray.empty, .string ByteArray.empty, .int .u8 0, .bool false]] (by kernel_rfl) (by kernel_rfl) (by kernel_rfl)) ?_
  intro W base args ds gs before hval0 hW hsh
  have hval : ∀ (j : Nat) t v, Tryd.f6.params[j]? = some t → args[j]? = some v → Value.okWide Tryd.prog W .any base t v := hval0
  have hWk := hW
  obtain ⟨p, q, hA0, hV, hbef, _, _⟩ := hWk
  have hA : DataW.TrodAll enc Tryd.prog W 0 (fun _ => true) true Tryd.f6.params.toList args.toList ds p := hA0
  obtain ⟨rfl, rfl⟩ := trodVars_none hV
  rw [Tryd.params6] at hA hval
  obtain ⟨v0, vs0, d0, ds0, p0, q0, hargs, rfl, hp0, h0, r0⟩ := trodAll_cons hA
  obtain ⟨v1, vs1, d1, ds1, p1, q1, rfl, rfl, hp1, h1, r1⟩ := trodAll_cons r0
  obtain ⟨rfl, rfl, hpn⟩ := trodAll_nil r1
  obtain rfl : args = #[v0, v1] := by cases args; simp_all
  obtain ⟨A0, n0, c0, l0, rfl, hs0, _, hn0, hi0⟩ := open_Msgs (hval 0 25 v0 rfl rfl) h0
  obtain ⟨m1, rfl, hi1⟩ := open_Ms (hval 1 28 v1 rfl rfl) h1
  refine (walk W (glo_of hsh) A0 n0 c0 l0 hs0 hn0 hi0 m1 hi1).mono fun e W' ⟨he, hg⟩ => ?_
  subst he
  exact ⟨_, rfl, law_post laid_out (by kernel_rfl) rfl (by kernel_rfl) Tryd.underlying4 hW rfl hg⟩

theorem over : Rows.keepOneRow.holds Tryd.pinned (OpenSpec.ofChange Rows.keepOneSpec) :=
  OpenClaim.holds_of_wide 6 Tryd.f6 rfl rfl rfl rfl rfl rfl rfl ⟨rfl, rfl, rfl, rfl, rfl⟩ rfl rfl rfl rfl rfl (by kernel_rfl) Tryd.func6 (by kernel_rfl)
    (of_decide_eq_true (by kernel_rfl)) (by unfold Func.isWrapper; first | (rw [if_pos (by decide +kernel)]; kernel_rfl) | (rw [if_neg (by decide +kernel)]; exact ⟨rfl, rfl⟩))
    (fun os started H enc _ => lifted os started H enc)

/-- THE STATEMENT: the card. -/
theorem proved : Rows.KeepOneCardSaid :=
  Claim7.holds_tied_plain_at .later [] [.data, .pinned] true Rows.keepOneCard.stood.harness false over (fun _ h => by cases h) (by kernel_rfl) (fun _ h => by cases h) keepOne_row_tie rfl ⟨rfl, rfl⟩ (by kernel_rfl) rfl
    (fun f fn hf hfn => by
      obtain rfl : f = 6 := Option.some.inj ((show Tryd.prog.funcNamed Rows.keepOneRow.func = some 6 by kernel_rfl).symm.trans hf) |>.symm
      obtain rfl : fn = Tryd.f6 := (Option.some.inj (Tryd.func6.symm.trans hfn)).symm
      exact ⟨by kernel_rfl, fun j t ht => by
        have hm : t ∈ Tryd.f6.params.toList := by simpa using Array.mem_of_getElem? ht
        have hall : (Tryd.f6.params.toList.all fun u => !Tryd.prog.wantsStandIn u) = true := by kernel_rfl
        exact (show Tryd.prog.wantsStandIn t = false by simpa using List.all_eq_true.1 hall t hm)⟩)
    (by kernel_rfl)
end lawKeepOne
end Go.Proofs.YthhadjnffeadfaaDoor
