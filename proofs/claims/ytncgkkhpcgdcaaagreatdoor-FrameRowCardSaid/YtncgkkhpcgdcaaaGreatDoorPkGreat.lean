/-
  Great.
-/
import Derived.Test.YtncgkkhpcgdcaaaGreatDoorPkOpen
set_option linter.unusedSimpArgs false
set_option linter.unusedVariables false
namespace Go.Proofs.YtncgkkhpcgdcaaaGreatDoor
open Go.RowKit
set_option maxRecDepth 100000
/-- The call's own row of strings. -/
def OwnT (B : Nat) (w0 wr : World) (v : Value) (ss : List (List UInt8)) : Prop :=
  wr.ownsRow B 9 1 v ss.length (ss.map fun x => Value.string ⟨x.toArray⟩) ∧ Below B w0 wr ∧ B ≤ wr.heap.size
section
variable {B : Nat} {w0 wr : World} {v : Value} {ss : List (List UInt8)}
theorem OwnT.form (h : OwnT B w0 wr v ss) : ∃ A c, v = .slice A ss.length c ∧ Strs wr A ss.length ss := by
  rcases h.1.2 with ⟨rfl, hn⟩ | ⟨g, cap, cur, rfl, _, hh, _, _, _, _⟩
  · exact ⟨none, 0, by rw [hn], rfl, fun h => by omega⟩
  · refine ⟨_, _, rfl, rfl, fun _ => ⟨g, 0, rfl, fun j x hx => ?_⟩⟩
    have := h.1.cells (g := g) rfl j (.string ⟨x.toArray⟩) (by simp [hx])
    have hadd : (⟨g, 0, none⟩ : Addr).add j = ⟨g, 0 + j, none⟩ := by unfold Addr.add; split <;> simp_all
    rw [hadd] at this
    exact this
theorem OwnT.alloc (h : OwnT B w0 wr v ss) (o : Obj) : OwnT B w0 (wr.alloc o) v ss := ⟨h.1.alloc o, h.2.1.alloc h.2.2 o, Nat.le_trans h.2.2 (by simp)⟩
theorem str_info : (Tryz.prog.info? 9).map (fun i => (i.zero, i.size, i.bytes)) = some (some (.string ByteArray.empty), 1, 16) := by kernel_rfl
theorem wpList_tapp {ops : Array Oper} {rest : List Oper} {o : Oper} {a : Act} {Q : Exit → Act → World → Prop} (hgd : o.guard = none) (s x : Operand)
    (ho : o.op = .call { callee := .builtin .append, args := #[s, x], argTypes := #[22, 22] })
    (hs : a.eval s = v) (hb : OwnT B w0 wr v ss) (g c : Nat) (y : List UInt8) (hx : a.eval x = .slice (some ⟨g, 0, none⟩) 1 c) (hI : wr.cell? ⟨g, 0, none⟩ = some (.string ⟨y.toArray⟩))
    (hl : ss.length ≤ 100000)
    (h : ∀ v' w', OwnT B w0 w' v' (ss ++ [y]) → wpList Tryz.prog ops Q rest (a.put o.dst v') w') : wpList Tryz.prog ops Q (o :: rest) a wr := by
  obtain ⟨i, hi, hz0, hz1, hz2⟩ := info_parts str_info
  obtain ⟨hown, hbel, hB⟩ := hb
  refine wpList_append_own wr hgd s x _ ho B _ i _ 1 16 Tryz.underlying22 hi hz0 hz1 hz2 rfl (by decide) v ss.length _ hs hown ⟨g, 0, none⟩ 1 c [.string ⟨y.toArray⟩] hx rfl ?_ ?_ (by unfold maxLen; omega) (by omega) hB ?_
  · intro j u hu
    match j, hu with
    | 0, hu =>
      cases hu
      have hadd : (⟨g, 0, none⟩ : Addr).add 0 = ⟨g, 0, none⟩ := by unfold Addr.add; split <;> simp_all
      rw [hadd]; exact hI
    | j + 1, hu => simp at hu
  · intro u hu
    simp at hu
    subst hu
    rfl
  · intro v' w' hown' hgr _
    refine h v' w' ⟨?_, hbel.grown hgr hB (fun k hk => (hown.lt k hk).1), Nat.le_trans hB hgr.size⟩
    rw [List.length_append, List.map_append]
    exact hown'
end
theorem kp_box {w wr : World} {cs : Array Value} {t : TypeId} (hb : Below (w.heap.size + 1) (w.alloc (.cells cs t)) wr) : Kp w [(w.heap.size, cs, t)] wr :=
  ⟨fun x hx => by
    simp at hx
    subst hx
    exact ⟨Nat.le_refl _, (hb.block _ (by omega)).trans (heap_alloc_new w _)⟩, ((Below.refl _ _).alloc (Nat.le_refl _) _).trans (hb.mono (by omega))⟩
def lenS : List (List UInt8) → Nat
  | [] => 0
  | x :: r => x.length + lenS r
theorem lenS_app : ∀ a b, lenS (a ++ b) = lenS a + lenS b
  | [], b => by simp [lenS]
  | x :: r, b => by simp only [List.cons_append, lenS, lenS_app r b]; omega
theorem lenS_sum : ∀ xs : List (List UInt8 × Int), lenS (xs.map (·.1)) = sumB xs
  | [] => rfl
  | x :: r => by simp only [List.map_cons, lenS, sumB, lenS_sum r]
theorem lenS_step (ss : List (List UInt8)) (k : Nat) (x : List UInt8) (hx : ss[k]? = some x) : lenS (ss.drop k) = x.length + lenS (ss.drop (k + 1)) := by
  obtain ⟨h1, h2⟩ := List.getElem?_eq_some_iff.1 hx
  rw [List.drop_eq_getElem_cons h1, h2, lenS]
def txt8 (p : Pk) : List (List UInt8) := [p.topic, p.load, p.client, p.wt, p.wl, p.user, p.pass, p.codes]
/-- What Great answers: no, then the packet is small. -/
def GP (p : Pk) (xs : List (List UInt8 × Int)) (w : World) (e : Ending) (w' : World) : Prop := ∃ g, e = .returned (.bool g) ∧ (g = false → totB p xs ≤ 10000 ∧ xs.length ≤ 100) ∧ Below w.heap.size w w'
theorem gp_mk {p : Pk} {xs : List (List UInt8 × Int)} {w w' : World} {e : Ending} (g : Bool) (h1 : e = .returned (.bool g)) (h2 : g = false → totB p xs ≤ 10000 ∧ xs.length ≤ 100) (h3 : Below w.heap.size w w') : GP p xs w e w' := ⟨g, h1, h2, h3⟩
set_option maxHeartbeats 2000000 in
theorem great_any (p : Pk) (A : Option Addr) (n c : Nat) (xs : List (List UInt8 × Int)) (w : World) (hs : Subs w A n xs) (hc : Came p xs) :
    Calls Tryz.prog 15 #[.agg (PkC p A n c)] w fun e w' => GP p xs w e w' := by
  obtain rfl := hs.len
  have HS := Lib.hid hs
  have HC := Lib.hid hc
  clear hs hc
  by_cases hn : 100 < xs.length
  · have hd : decide ((100 : Int) < (xs.length : Int)) = true := by simp; omega
    go_enter Tryz.func15, Tryz.ntmps15
    go_wp2_with fail
    go_ret
    exact gp_mk true rfl (fun h => (by cases h)) ((Below.refl _ _).alloc (Nat.le_refl _) _)
  · have hd : decide ((100 : Int) < (xs.length : Int)) = false := by simp; omega
    go_enter Tryz.func15, Tryz.ntmps15
    go_wp2_with fail
    have hown0 : OwnT (w.heap.size + 1) (w.alloc (.cells (PkC p A xs.length c) 36)) ((w.alloc (.cells (PkC p A xs.length c) 36)).alloc (.cells #[.string ⟨p.topic.toArray⟩, .string ⟨p.load.toArray⟩, .string ⟨p.client.toArray⟩, .string ⟨p.wt.toArray⟩, .string ⟨p.wl.toArray⟩, .string ⟨p.user.toArray⟩, .string ⟨p.pass.toArray⟩, .string ⟨p.codes.toArray⟩] 9)) (.slice (some ⟨w.heap.size + 1, 0, none⟩) 8 8) (txt8 p) := by
      refine ⟨?_, (Below.refl _ _).alloc (by simp) _, by simp⟩
      have := World.ownsRow_lit (base := w.heap.size + 1) (e := 9) (size := 1) (w.alloc (.cells (PkC p A xs.length c) 36)) #[.string ⟨p.topic.toArray⟩, .string ⟨p.load.toArray⟩, .string ⟨p.client.toArray⟩, .string ⟨p.wt.toArray⟩, .string ⟨p.wl.toArray⟩, .string ⟨p.user.toArray⟩, .string ⟨p.pass.toArray⟩, .string ⟨p.codes.toArray⟩] 8 (by simp) (by unfold maxLen; omega) rfl
      rw [World.size_alloc] at this
      exact this
    go_loopw [4, 5] (fun l i wr => ∃ k : Nat, i = .int .i64 k ∧ k ≤ xs.length ∧ OwnT (w.heap.size + 1) (w.alloc (.cells (PkC p A xs.length c) 36)) wr l (txt8 p ++ (xs.take k).map (·.1))) (fun _ i _ => xs.length - (intOf i).toNat)
    case atStart => exact ⟨0, rfl, by omega, by simpa using hown0⟩
    case round =>
      clear hown0
      obtain ⟨k, rfl, hk, hown⟩ := hrel
      have hK := kp_box hown.2.1
      have e1r := hK.row; have e1f := hK.free; have e1c := hK.cell; have e1l := hK.lt; have e1z := hK.froz
      by_cases hlt : k < xs.length
      · have hlt2 : (k : Int) < (xs.length : Int) := by omega
        obtain ⟨bx, off, x, rfl, hx, hbx, hsz, hex⟩ := (HS.out.below hK.below).at_ hlt
        have hcell : wr.cell? ⟨bx, off + k * 2, none⟩ = some (.string ⟨x.1.toArray⟩) := by
          have := (HS.out.below hK.below).cells (k * 2) (.string ⟨x.1.toArray⟩) (by
            have h := flatS_at xs k x hx
            have h2 : ((flatS xs).drop (k * 2)).take 2 = [.string ⟨x.1.toArray⟩, .int .u8 x.2] := by rw [h]; simp [SbC]
            have h3 := congrArg (fun l => l[0]?) h2
            simpa using h3)
          exact this
        have hxs : xs.take (k + 1) = xs.take k ++ [x] := by
          rw [List.take_add_one, hx]; rfl
        have HXS := Lib.hid hxs
        have HO := Lib.hid hown
        clear hx hxs hex hown
        go_wp2_with (at_builtin; refine wpList_tapp rfl _ _ rfl rfl (HO.out.alloc _) wr.heap.size 1 x.1 rfl (World.cell?_alloc_new _ _ _ _) (by simp [txt8]; omega) ?_; intro v' w' hown'; have HO' : Hid (OwnT (w.heap.size + 1) (w.alloc (.cells (PkC p (some ⟨bx, off, none⟩) xs.length c) 36)) w' v' (txt8 p ++ (xs.take (k + 1)).map (·.1))) := (by show OwnT _ _ _ _ _; rw [HXS.out, List.map_append, ← List.append_assoc]; exact hown'); clear hown')
        go_roundw
        case rel => exact ⟨k + 1, by go_num, by omega, HO'.out⟩
        case measure => simp [intOf]; omega
      · have hge : ¬ (k : Int) < (xs.length : Int) := by omega
        have hke : xs.take k = xs := List.take_of_length_le (by omega)
        rw [hke] at hown
        obtain ⟨A2, c2, rfl, hT⟩ := hown.form
        have hbw := hK.below
        have hSS : lenS (txt8 p ++ xs.map (·.1)) = totB p xs := by
          rw [lenS_app, lenS_sum]
          simp only [txt8, lenS, totB]
          omega
        have hlen : (txt8 p ++ xs.map (·.1)).length ≤ 200 := by simp [txt8]; omega
        have hbig : ∀ y ∈ txt8 p ++ xs.map (·.1), y.length ≤ 9223372036854775807 := by
          intro y hy
          rw [List.mem_append, List.mem_map] at hy
          obtain ⟨a1, a2, a3, a4, a5, a6, a7, a8⟩ := HC.out.lens
          rcases hy with hy | ⟨x, hx, rfl⟩
          · simp only [txt8, List.mem_cons, List.mem_nil_iff, or_false] at hy
            rcases hy with rfl | rfl | rfl | rfl | rfl | rfl | rfl | rfl <;> assumption
          · exact (HC.out.sub x hx).2.2
        have HSS := Lib.hid hSS
        have HBIG := Lib.hid hbig
        have hnx : xs.length ≤ 100 := by omega
        generalize txt8 p ++ xs.map (·.1) = ss at *
        clear hown hSS hbig hke
        go_wp2_with fail
        go_loop [3, 6] (fun l i => ∃ (j : Nat) (S : Nat), i = .int .i64 j ∧ j ≤ ss.length ∧ l = .int .i64 (10000 - (S : Int)) ∧ S ≤ 10000 ∧ Hid (lenS ss = S + lenS (ss.drop j))) (fun _ i => ss.length - (intOf i).toNat)
        case atStart => exact ⟨0, 0, rfl, by omega, rfl, by omega, by show _ = _; simp⟩
        case round =>
          obtain ⟨j, S, rfl, hj, rfl, hS, hsum⟩ := hrel
          by_cases hlt3 : j < ss.length
          · have hlt4 : (j : Int) < (ss.length : Int) := by omega
            obtain ⟨b2, o2, y, rfl, hy, hcy⟩ := hT.at_ hlt3
            have hyl := HBIG.out y (List.mem_of_getElem? hy)
            have HST := Lib.hid (lenS_step ss j y hy)
            clear hy
            by_cases hgt : (10000 : Int) - S < y.length
            · have hd2 : decide ((10000 : Int) - (S : Int) < (y.length : Int)) = true := by simpa using hgt
              go_wp2_with fail
              go_ret
              exact gp_mk true rfl (fun h => (by cases h)) hbw
            · have hd2 : decide ((10000 : Int) - (S : Int) < (y.length : Int)) = false := by simpa using hgt
              have hw1 : IntKind.i64.wrap (10000 - (S : Int) - (y.length : Int)) = 10000 - ((S + y.length : Nat) : Int) := by rw [IntWalk.i64_in _ (by omega)]; omega
              have hw2 : wrap64 (10000 - (S : Int) - (y.length : Int)) = 10000 - ((S + y.length : Nat) : Int) := by rw [IntWalk.wrap64_in _ (by omega)]; omega
              go_wp2_with fail
              go_round
              case rel => exact ⟨j + 1, S + y.length, by go_num, by omega, rfl, by omega, by show _ = _; have h1 := hsum.out; have h2 := HST.out; omega⟩
              case measure => simp [intOf]; omega
          · have hge2 : ¬ (j : Int) < (ss.length : Int) := by omega
            have hd0 : ss.drop j = [] := List.drop_eq_nil_of_le (by omega)
            have hfin : totB p xs ≤ 10000 := by
              have h1 := hsum.out
              rw [hd0, HSS.out] at h1
              simp only [lenS] at h1
              omega
            have HFIN := Lib.hid hfin
            clear hd0 hfin
            go_wp2_with fail
            go_ret
            exact gp_mk false rfl (fun _ => ⟨HFIN.out, hnx⟩) hbw
theorem fit_came {p : Pk} {xs : List (List UInt8 × Int)} (h : Came p xs) (h1 : totB p xs ≤ 10000) (h2 : xs.length ≤ 100) : Fit p xs :=
  ⟨h.ty, h.qos, h.id, h.level, h.keep, h.wq, h.code, by omega, by omega, fun x hx => ⟨(h.sub x hx).1, (h.sub x hx).2.1⟩⟩
end Go.Proofs.YtncgkkhpcgdcaaaGreatDoor
