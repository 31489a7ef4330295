/-
  QueueApart: two queues have nothing to do with one another; one that was cleared is as a new one. For every input; no condition.
-/
import Derived.Test.YtihgikhnkkmhhaaQuAwake
import Derived.LaidEqlPtr
set_option linter.unusedSimpArgs false
set_option linter.unusedVariables false
namespace Go.Proofs.Ytihgikhnkkmhhaa.lawQueueApart
open Go.RowKit Go.ChangeShapes Go.WideShapes Go.ChangeAt

/-- Three queues of the call's own, apart. -/
structure TQ (w wr : World) (M ta tb tc : Nat) (Fa Fb Fc : Nat → Prop) (La Lb Lc : List Ms) : Prop where
  a : QX w wr ta Fa M La
  b : QX w wr tb Fb M Lb
  c : QX w wr tc Fc M Lc
  ab : ∀ x, Fa x → ¬ Fb x
  ac : ∀ x, Fa x → ¬ Fc x
  bc : ∀ x, Fb x → ¬ Fc x
section
variable {w wr w' w1 : World} {M t t2 ta tb tc : Nat} {F F' G Fa Fb Fc : Nat → Prop} {L L' La Lb Lc : List Ms} {v : Value} {e : Ending}
theorem QX.wide (h : QX w1 wr t F M L) (hb : Below w.heap.size w w1) : QX w wr t F M L := ⟨h.q, below_more hb h.b, fun b hF => Nat.le_trans hb.size (h.f b hF)⟩
/-- Another one, apart from what a call changed. -/
theorem QX.beside (h : QX w wr t F M L) (k : QX w w' t2 F' M L') (hs : Sv wr w' G F') (hd : ∀ x, F x → ¬ G x) : QX w w' t F M L ∧ ∀ x, F x → ¬ F' x :=
  ⟨⟨h.q.keep fun b hF => hs.kept b (h.q.lt b hF) (hd b hF), k.b, h.f⟩, fun x hF => hs.out x (h.q.lt x hF) (hd x hF)⟩
theorem TQ.ne (h : TQ w wr M ta tb tc Fa Fb Fc La Lb Lc) : tb ≠ ta := fun e => h.ab ta h.a.q.root (e ▸ h.b.q.root)
theorem TQ.below (h : TQ w wr M ta tb tc Fa Fb Fc La Lb Lc) (hb : Below wr.heap.size wr w') : TQ w w' M ta tb tc Fa Fb Fc La Lb Lc := ⟨h.a.below hb, h.b.below hb, h.c.below hb, h.ab, h.ac, h.bc⟩
theorem TQ.inA (h : TQ w wr M ta tb tc Fa Fb Fc La Lb Lc) (k : QS w wr ta Fa M L' v e w') : ∃ F', e = .returned v ∧ TQ w w' M ta tb tc F' Fb Fc L' Lb Lc := by
  obtain ⟨F', he, hq, hs⟩ := k
  obtain ⟨hb, hb2⟩ := QX.beside h.b hq hs (fun x h1 h2 => h.ab x h2 h1)
  obtain ⟨hc, hc2⟩ := QX.beside h.c hq hs (fun x h1 h2 => h.ac x h2 h1)
  exact ⟨F', he, hq, hb, hc, fun x h1 h2 => hb2 x h2 h1, fun x h1 h2 => hc2 x h2 h1, h.bc⟩
theorem TQ.inB (h : TQ w wr M ta tb tc Fa Fb Fc La Lb Lc) (k : QS w wr tb Fb M L' v e w') : ∃ F', e = .returned v ∧ TQ w w' M ta tb tc Fa F' Fc La L' Lc := by
  obtain ⟨F', he, hq, hs⟩ := k
  obtain ⟨ha, ha2⟩ := QX.beside h.a hq hs h.ab
  obtain ⟨hc, hc2⟩ := QX.beside h.c hq hs (fun x h1 h2 => h.bc x h2 h1)
  exact ⟨F', he, ha, hq, hc, ha2, h.ac, fun x h1 h2 => hc2 x h2 h1⟩
theorem TQ.inC (h : TQ w wr M ta tb tc Fa Fb Fc La Lb Lc) (k : QS w wr tc Fc M L' v e w') : ∃ F', e = .returned v ∧ TQ w w' M ta tb tc Fa Fb F' La Lb L' := by
  obtain ⟨F', he, hq, hs⟩ := k
  obtain ⟨ha, ha2⟩ := QX.beside h.a hq hs h.ac
  obtain ⟨hb, hb2⟩ := QX.beside h.b hq hs h.bc
  exact ⟨F', he, ha, hb, hq, h.ab, ha2, hb2⟩
theorem qu_size : (Try.prog.info? 35).map (·.size) = some 3 := by kernel_rfl
theorem qu_info : ∃ j, Try.prog.info? 35 = some j ∧ j.size ≠ 0 := by
  cases hq : Try.prog.info? 35 with
  | none => have := qu_size; rw [hq] at this; cases this
  | some j => exact ⟨j, rfl, by have := qu_size; rw [hq] at this; simp at this; omega⟩
theorem cmp_same (wr : World) (a : Addr) : (binOp .eql 23 (.pointer (some a)) (.pointer (some a))).run Try.prog wr = .ok (.bool true) wr := by
  obtain ⟨j, hj, _⟩ := qu_info
  exact run_eql_ptr_same wr a Try.underlying23 hj
theorem TQ.cmp (h : TQ w wr M ta tb tc Fa Fb Fc La Lb Lc) : (binOp .eql 23 (.pointer (some ⟨tb, 0, none⟩)) (.pointer (some ⟨ta, 0, none⟩))).run Try.prog wr = .ok (.bool false) wr := by
  obtain ⟨j, hj, hsz⟩ := qu_info
  obtain ⟨_, ⟨v1, k1, _⟩, _⟩ := h.a.q
  obtain ⟨_, ⟨v2, k2, _⟩, _⟩ := h.b.q
  refine run_eql_ptr_other wr Try.underlying23 hj hsz (fun e => ?_) k2 k1
  injection e with e1
  exact h.ne e1
theorem pk_form (L : List Ms) : ∃ (m : Ms) (ok : Bool), pkV L = .tuple #[.agg #[.string ⟨m.1.toArray⟩, .string ⟨m.2.1.toArray⟩, .int .u8 m.2.2.1, .bool m.2.2.2], .bool ok] := by
  cases L with
  | nil => exact ⟨nilMs, false, rfl⟩
  | cons m L => exact ⟨m, true, rfl⟩
end
set_option maxHeartbeats 8000000 in
set_option maxRecDepth 100000 in
theorem walk (w : World) (most : Int) (_wm : (Lit.int .i64 most).wf = true) (A : Option Addr) (n c : Nat) (l : List Aq) (hs : Aqs w A n l) (hn : n ≤ 9223372036854775807) (hi : Hid (∀ x ∈ l, AqIn x)) :
    Calls Try.prog 7 #[.int .i64 most, .slice A n c] w fun e w' => e = .returned (.bool true) ∧ Below w.heap.size w w' := by
  have HS := Lib.hid hs
  have HL := Lib.hid hs.len
  have HG := Lib.hid (great12_any A n c l w hs hn hi)
  clear hs
  go_enter Try.func7, Try.ntmps7
  go_wp2_with fail
  refine HG.out.mono ?_
  rintro e w1 ⟨gb, rfl, hok, hb⟩
  have HB := Lib.hid hb
  clear hb HG
  cases gb with
  | true =>
    go_wp2_with fail
    refine (awake12_any _).mono ?_
    rintro e w2 ⟨rfl, hb⟩
    go_wp2_with fail
    go_ret
    exact ⟨rfl, below_more HB.out hb⟩
  | false =>
    have HOK := Lib.hid (hok rfl)
    clear hok
    by_cases hm : most < 1 ∨ 1024 < most
    · go_wp2_with fail
      refine (qNewN _ most hm).mono ?_
      rintro e w2 ⟨rfl, rfl⟩
      go_wp2_with fail
      refine (qNewN _ most hm).mono ?_
      rintro e w2 ⟨rfl, rfl⟩
      go_wp2_with fail
      refine (qNewN _ most hm).mono ?_
      rintro e w2 ⟨rfl, rfl⟩
      go_wp2_with fail
      refine (awake12_any _).mono ?_
      rintro e w2 ⟨rfl, hb⟩
      go_wp2_with fail
      go_ret
      exact ⟨rfl, below_more HB.out hb⟩
    · obtain ⟨M, rfl⟩ : ∃ M : Nat, most = (M : Int) := ⟨most.toNat, by omega⟩
      have hM1 : 1 ≤ M := by omega
      have hM2 : M ≤ 1024 := by omega
      have hn2 : n ≤ 2500 := by have := HOK.out.1; rw [HL.out] at this; exact this
      clear hm
      go_wp2_with fail
      refine (xNew (w0 := w1) (Below.refl _ _) M hM1 hM2).mono ?_
      rintro e w2 ⟨ta, Fa, rfl, hQa⟩
      go_wp2_with fail
      refine (xNew (w0 := w2) (Below.refl _ _) M hM1 hM2).mono ?_
      rintro e w3 ⟨tb, Fb, rfl, hQb⟩
      have hQa3 := hQa.below hQb.b
      go_wp2_with fail
      refine (xNew (w0 := w3) (Below.refl _ _) M hM1 hM2).mono ?_
      rintro e w4 ⟨tc, Fc, rfl, hQc⟩
      have hTQ : TQ w w4 M ta tb tc Fa Fb Fc [] [] [] := by
        have k2 := below_more HB.out hQa.b
        have k3 := below_more k2 hQb.b
        refine ⟨QX.wide (hQa3.below hQc.b) HB.out, QX.wide (hQb.below hQc.b) k2, QX.wide hQc k3, fun x h1 h2 => ?_, fun x h1 h2 => ?_, fun x h1 h2 => ?_⟩
        · have := hQa.q.lt x h1; have := hQb.f x h2; omega
        · have := hQa3.q.lt x h1; have := hQc.f x h2; omega
        · have := hQb.q.lt x h1; have := hQc.f x h2; omega
      have HT := Lib.hid hTQ
      clear hQa hQb hQa3 hQc hTQ HB
      go_wp2_with fail
      refine (message_any [120] _).mono ?_
      rintro e w5 ⟨rfl, hb5⟩
      have HT5 := Lib.hid (TQ.below HT.out hb5)
      clear hb5 HT
      go_wp2_with fail
      refine (xPush HT5.out.c ([120], [], 0, false) true [([120], [], 0, false)] (by decide) (by decide) (decide_eq_true (by simp; omega)) (if_pos (by simp; omega))).mono ?_
      rintro e w6 hS
      obtain ⟨Fc, rfl, hT6⟩ := TQ.inC HT5.out hS
      have HT6 := Lib.hid hT6
      clear hS hT6 HT5
      go_wp2_with fail
      refine (xClear HT6.out.c).mono ?_
      rintro e w7 ⟨v7, hS⟩
      obtain ⟨Fc, rfl, hT7⟩ := TQ.inC HT6.out hS
      have HT7 := Lib.hid hT7
      clear hS hT7 HT6
      go_wp2_with fail
      go_loopw [8] (fun i wr => ∃ (k : Nat) (Fa Fb Fc : Nat → Prop) (La Lb : List Ms), i = .int .i64 k ∧ k ≤ n ∧ TQ w wr M ta tb tc Fa Fb Fc La Lb La) (fun i _ => n - (intOf i).toNat)
      case atStart => exact ⟨0, Fa, Fb, Fc, [], [], rfl, by omega, HT7.out⟩
      case round =>
        clear HT7
        obtain ⟨k, Fa, Fb, Fc, La, Lb, rfl, hk, hT⟩ := hrel
        have HT := Lib.hid hT
        clear hT
        by_cases hlt : k < n
        · have hltI : (k : Int) < (n : Int) := by omega
          obtain ⟨b1, o1, x, rfl, hx, c0, c1, c2, c3, c4⟩ := (HS.out.below HT.out.a.b).at_ hlt
          have hsz := HOK.out.2 x (List.mem_of_getElem? hx)
          obtain ⟨hk0, hk255, _⟩ := hi.out x (List.mem_of_getElem? hx)
          have HX : Hid (∀ W, Below w.heap.size w W → AqAt W b1 (o1 + k * 5) x) := fun W hW => by
            obtain ⟨b2, o2, y, e, hy, hc⟩ := (HS.out.below hW).at_ hlt
            cases e
            obtain rfl : y = x := by rw [hx] at hy; cases hy; rfl
            exact hc
          obtain ⟨xk, xf, xc, xq, xb⟩ := x
          dsimp only at hsz hk0 hk255 c0 c1 c2 c3 c4
          obtain ⟨q, hq⟩ : ∃ q : Int, xk % 8 = q := ⟨_, rfl⟩
          have hqm : Int.tmod xk 8 = q := by rw [Int.tmod_eq_emod_of_nonneg (by omega)]; exact hq
          have hxf : xf.length ≤ 1000000 := by omega
          have hxc : xc.length ≤ 1000000 := by omega
          clear hx
          by_cases h128 : 128 ≤ xk
          · obtain ⟨r, hr⟩ : ∃ r, decide (Lb.length < M) = r := ⟨_, rfl⟩
            obtain ⟨L2, hL2⟩ : ∃ L2, (if Lb.length < M then Lb ++ [(xf, xc, xq, xb)] else Lb) = L2 := ⟨_, rfl⟩
            have HRr := Lib.hid hr
            have HL2 := Lib.hid hL2
            clear hr hL2 hq
            by_cases hq4 : q < 4
            · go_wp2_with fail
              refine (xPush HT.out.b (xf, xc, xq, xb) r L2 hxf hxc HRr.out HL2.out).mono ?_
              rintro e w8 hS
              obtain ⟨F8, rfl, hT8⟩ := TQ.inB HT.out hS
              have hcmp := TQ.cmp hT8
              have HT8 := Lib.hid hT8
              clear hS hT8 HT c0 c1 c2 c3 c4
              go_wp2_with fail
              go_roundw
              case rel => exact ⟨k + 1, _, _, _, _, _, by go_num, by omega, HT8.out⟩
              case measure => simp [intOf]; omega
            · obtain ⟨m, ok, hpk⟩ := pk_form Lb
              have HPK := Lib.hid hpk
              clear hpk
              go_wp2_with fail
              refine (xPop HT.out.b).mono ?_
              rintro e w8 hS
              obtain ⟨F8, rfl, hT8⟩ := TQ.inB HT.out hS
              have hcmp := TQ.cmp (TQ.below hT8 (below_alloc (Below.refl _ _) (.cells #[.string ⟨m.1.toArray⟩, .string ⟨m.2.1.toArray⟩, .int .u8 m.2.2.1, .bool m.2.2.2] 28)))
              have HT8 := Lib.hid (TQ.below hT8 (below_alloc (Below.refl _ _) (.cells #[.string ⟨m.1.toArray⟩, .string ⟨m.2.1.toArray⟩, .int .u8 m.2.2.1, .bool m.2.2.2] 28)))
              rw [HPK.out]
              clear hS hT8 HT c0 c1 c2 c3 c4
              go_wp2_with fail
              go_roundw
              case rel => exact ⟨k + 1, _, _, _, _, _, by go_num, by omega, HT8.out⟩
              case measure => simp [intOf]; omega
          · obtain ⟨r, hr⟩ : ∃ r, decide (La.length < M) = r := ⟨_, rfl⟩
            obtain ⟨L2, hL2⟩ : ∃ L2, (if La.length < M then La ++ [(xf, xc, xq, xb)] else La) = L2 := ⟨_, rfl⟩
            have HRr := Lib.hid hr
            have HL2 := Lib.hid hL2
            clear hr hL2 hq
            by_cases hq4 : q < 4
            · go_wp2_with fail
              refine (xPush HT.out.a (xf, xc, xq, xb) r L2 hxf hxc HRr.out HL2.out).mono ?_
              rintro e w8 hS
              obtain ⟨F8, rfl, hT8⟩ := TQ.inA HT.out hS
              obtain ⟨d0, d1, d2, d3, d4⟩ := HX.out w8 hT8.a.b
              dsimp only at d0 d1 d2 d3 d4
              have hcmp := cmp_same w8 ⟨ta, 0, none⟩
              have HT8 := Lib.hid hT8
              clear hS hT8 HT c0 c1 c2 c3 c4
              go_wp2_with fail
              refine (xPush HT8.out.c (xf, xc, xq, xb) r L2 hxf hxc HRr.out HL2.out).mono ?_
              rintro e w9 hS
              obtain ⟨F9, rfl, hT9⟩ := TQ.inC HT8.out hS
              have HT9 := Lib.hid hT9
              clear hS hT9 HT8 d0 d1 d2 d3 d4
              go_wp2_with fail
              go_roundw
              case rel => exact ⟨k + 1, _, _, _, _, _, by go_num, by omega, HT9.out⟩
              case measure => simp [intOf]; omega
            · obtain ⟨m, ok, hpk⟩ := pk_form La
              have HPK := Lib.hid hpk
              have hself : eqM m m = true := by rw [eqM_iff]; exact beq_self_eq_true _
              obtain ⟨m1, m2, m3, m4⟩ := m
              dsimp only at HPK
              clear hpk
              go_wp2_with fail
              refine (xPop HT.out.a).mono ?_
              rintro e w8 hS
              obtain ⟨F8, rfl, hT8⟩ := TQ.inA HT.out hS
              rw [HPK.out]
              obtain ⟨W, hW⟩ : ∃ x, x = w8.alloc (.cells #[.string ⟨m1.toArray⟩, .string ⟨m2.toArray⟩, .int .u8 m3, .bool m4] 28) := ⟨_, rfl⟩
              have hcmp := cmp_same (w8.alloc (.cells #[.string ⟨m1.toArray⟩, .string ⟨m2.toArray⟩, .int .u8 m3, .bool m4] 28)) ⟨ta, 0, none⟩
              have hbW : Below w8.heap.size w8 W := by rw [hW]; exact below_alloc (Below.refl _ _) _
              have hX : BxM W w8.heap.size (m1, m2, m3, m4) := by rw [hW]; exact BxM.new w8 (m1, m2, m3, m4)
              obtain ⟨bx, hbx⟩ : ∃ x, x = w8.heap.size := ⟨_, rfl⟩
              have hXF : ¬ F8 bx ∧ ¬ Fb bx ∧ ¬ Fc bx := by rw [hbx]; exact ⟨hT8.a.new, hT8.b.new, hT8.c.new⟩
              rw [← hbx] at hX
              have HX8 := Lib.hid hX
              have HXF := Lib.hid hXF
              have HT8 := Lib.hid (TQ.below hT8 hbW)
              clear hS hT8 HT c0 c1 c2 c3 c4 hX hXF hbW
              go_wp2_with fail
              rw [← hW, ← hbx]
              clear hW hbx
              refine (xPop HT8.out.c).mono ?_
              rintro e w9 hS
              have hS2 := hS
              obtain ⟨F9, rfl, hT9⟩ := TQ.inC HT8.out hS
              obtain ⟨F9', _, _, hsv⟩ := hS2
              have X9 := (hsv.box HX8.out HXF.out.2.2).1
              have y0 := X9.c0; have y1 := X9.c1; have y2 := X9.c2; have y3 := X9.c3
              dsimp only at y0 y1 y2 y3
              have ylt := X9.lt
              rw [HPK.out]
              have HT9 := Lib.hid (TQ.below hT9 (below_alloc (Below.refl _ _) (.cells #[.string ⟨m1.toArray⟩, .string ⟨m2.toArray⟩, .int .u8 m3, .bool m4] 28)))
              clear hS hT9 HT8 hsv X9 HX8 HXF
              go_wp2_with fail
              go_roundw
              case rel => exact ⟨k + 1, _, _, _, _, _, by go_num, by omega, HT9.out⟩
              case measure => simp [intOf]; omega
        · have hltI : ¬ (k : Int) < (n : Int) := by omega
          go_wp2_with fail
          refine (xLen HT.out.a _ rfl).mono ?_
          rintro e w8 hS
          obtain ⟨F8, rfl, hT8⟩ := TQ.inA HT.out hS
          have HT8 := Lib.hid hT8
          clear hS hT8 HT
          go_wp2_with fail
          refine (xLen HT8.out.c _ rfl).mono ?_
          rintro e w9 hS
          obtain ⟨F9, rfl, hT9⟩ := TQ.inC HT8.out hS
          have HT9 := Lib.hid hT9
          clear hS hT9 HT8
          go_wp2_with fail
          refine (xRoom HT9.out.a _ rfl).mono ?_
          rintro e w10 hS
          obtain ⟨F10, rfl, hT10⟩ := TQ.inA HT9.out hS
          have HT10 := Lib.hid hT10
          clear hS hT10 HT9
          go_wp2_with fail
          refine (xRoom HT10.out.c _ rfl).mono ?_
          rintro e w11 hS
          obtain ⟨F11, rfl, hT11⟩ := TQ.inC HT10.out hS
          have HT11 := Lib.hid hT11
          clear hS hT11 HT10
          go_wp2_with fail
          refine (awake12_any _).mono ?_
          rintro e w12 ⟨rfl, hb12⟩
          go_wp2_with fail
          go_ret
          exact ⟨rfl, below_more HT11.out.a.b hb12⟩
set_option maxRecDepth 100000 in
theorem lifted (os : Os) (started : os.Started) (H : Type) (enc : TypeId × Value → H) :
    ReturnsInHanded {} Try.checked os 7 .any (Rows.queueApartSpec.pre6 enc Try.prog Try.f7 Rows.queueApartRow.domain false) (Rows.queueApartSpec.post enc Try.prog Try.f7 false true false false) := by
  refine returnsInHanded_of_change_sized (C := Try.checked) own_none started (by kernel_rfl) Try.func7
    (ChangeSpec.witness6 (enc := enc) (C := Try.checked) false ⟨#[], #[.int .i64 0, .slice none 0 0], []⟩ 8 (by kernel_rfl) (by kernel_rfl) (by kernel_rfl) (by kernel_rfl)) ?_
  intro W base args ds gs before hval0 hW hcnd hwt _
  have hval : ∀ (j : Nat) t v, Try.f7.params[j]? = some t → args[j]? = some v → Value.okWide Try.prog W .any base t v := hval0
  have hWk := hW
  obtain ⟨p, q, hA0, hV, hbef, _, _⟩ := hWk
  have hA : DataW.TrodAll enc Try.prog W 0 (fun _ => true) true Try.f7.params.toList args.toList ds p := hA0
  obtain ⟨rfl, rfl⟩ := trodVars_none hV
  rw [Try.params7] at hA hval
  obtain ⟨v0, vs0, d0, ds0, p0, q0, hargs, rfl, hp0, h0, r0⟩ := trodAll_cons hA
  obtain ⟨v1, vs1, d1, ds1, p1, q1, rfl, rfl, hp1, h1, r1⟩ := trodAll_cons r0
  obtain ⟨rfl, rfl, hpn⟩ := trodAll_nil r1
  obtain rfl : args = #[v0, v1] := by cases args; simp_all
  obtain ⟨a0, rfl, rfl, hx0, w0⟩ := open_int Try.underlying3 (hval 0 3 v0 rfl rfl) h0
  obtain ⟨A1, n1, c1, l1, rfl, hs1, _, hn1, hi1⟩ := open_Aqs (hval 1 38 v1 rfl rfl) h1 (fun n hn => of_decide_eq_true (List.all_eq_true.1 hwt n (DataW.weights_mem_each (j := 1) (t := 38) (by rfl) (by rfl) n hn)))
  refine (walk W a0 w0 A1 n1 c1 l1 hs1 hn1 hi1).mono fun e W' ⟨he, hg⟩ => ?_
  subst he
  exact ⟨_, rfl, law_post laid_out (by kernel_rfl) rfl (by kernel_rfl) Try.underlying4 hW rfl hg⟩

theorem over : Rows.queueApartRow.holds Try.pinned (OpenSpec.ofChange Rows.queueApartSpec) :=
  OpenClaim.holds_of_wide 7 Try.f7 rfl rfl rfl rfl rfl rfl rfl ⟨rfl, rfl, rfl, rfl, rfl⟩ rfl rfl rfl rfl rfl (by kernel_rfl) Try.func7 (by kernel_rfl)
    (of_decide_eq_true (by kernel_rfl)) (by unfold Func.isWrapper; first | (rw [if_pos (by decide +kernel)]; kernel_rfl) | (rw [if_neg (by decide +kernel)]; exact ⟨rfl, rfl⟩))
    (fun os started H enc _ => lifted os started H enc)

/-- THE STATEMENT. -/
theorem proved : Rows.QueueApartSaid :=
  over
end Go.Proofs.Ytihgikhnkkmhhaa.lawQueueApart
