/-
  text: what each function of the package answers.
-/
import Derived.Test.YthhadjnffeadfaaGreatDoorKit
import Derived.Test.YthhadjnffeadfaaGreatDoorNumRef
import Derived.Test.YthhadjnffeadfaaGreatDoorTextFacts
import Derived.Test.YthhadjnffeadfaaGreatDoorShelf
import Derived.Lib.OthersKept
import Derived.Lib.AppendStr
set_option linter.unusedSimpArgs false
set_option linter.unusedVariables false
namespace Go.Proofs.YthhadjnffeadfaaGreatDoor
open Go.RowKit

theorem hasPre (l : List UInt8) : Lib.hasPrefix l replL = decide (replL <+: l) := by
  unfold Lib.hasPrefix
  rw [Bool.eq_iff_iff]
  simp
theorem isChar_any (r : Nat) (l : List UInt8) (w : World) (hr : r ≤ 2147483647) :
    Calls Tryz.prog 53 #[.int .i32 r, .string ⟨l.toArray⟩] w fun e w' => e = .returned (.bool (okRune r l)) ∧ w = w' := by
  by_cases h : r = 65533
  · subst h
    go_enter Tryz.func53, Tryz.ntmps53
    go_wp2_with fail
    refine (Tryz.strings_HasPrefix _ _ _).mono ?_
    rintro e w' ⟨rfl, rfl⟩
    go_wp2
    go_ret
    exact ⟨by rw [okRune, if_pos rfl, ← hasPre]; rfl, rfl⟩
  · have h1 : ((r : Int) == 65533) = false := by simp; omega
    go_enter Tryz.func53, Tryz.ntmps53
    go_wp2
    go_ret
    exact ⟨ret_bool (by rw [okRune, if_neg h, Bool.eq_iff_iff]; simp), rfl⟩
theorem isChar_eq (r : Nat) (l : List UInt8) (b : Bool) (w : World) (hr : r ≤ 2147483647) (h : okRune r l = b) :
    Calls Tryz.prog 53 #[.int .i32 r, .string ⟨l.toArray⟩] w fun e w' => e = .returned (.bool b) ∧ w = w' := h ▸ isChar_any r l w hr

set_option maxHeartbeats 400000 in
theorem textCount_any (l : List UInt8) (w : World) (hl : l.length ≤ 9223372036854775807) :
    Calls Tryz.prog 38 #[.string ⟨l.toArray⟩] w fun e w' => e = .returned (.int .i64 (cntR l)) ∧ Below w.heap.size w w' := by
  by_cases hg : 65535 < l.length
  · go_enter Tryz.func38, Tryz.ntmps38
    go_wp2
    go_ret
    exact ⟨ret_int (cntR_great l hg).symm, Below.refl _ _⟩
  · have hsz : (ByteArray.mk l.toArray).size = l.length := by show l.toArray.size = _; simp
    have hR := Lib.hid (cntR_small l (by omega))
    have hszH := Lib.hid hsz
    clear hsz
    go_enter Tryz.func38, Tryz.ntmps38
    go_wp2
    go_loopw [3] (fun n wr => ∃ (pos k : Nat), wr = w.iter ⟨l.toArray⟩ pos ∧ n = .int .i64 k ∧ k ≤ pos ∧ pos ≤ l.length ∧ Hid (cntI l = cntK (l.drop pos) k)) (fun _ wr => l.length - wr.iterPos w.heap.size)
    case atStart => exact ⟨0, 0, rfl, rfl, by omega, by omega, cntK_0 l⟩
    case round =>
      obtain ⟨pos, k, rfl, rfl, hk, hpos, hc⟩ := hrel
      by_cases hp : pos < l.length
      · have hnx : ∀ ty, (Instr.next (.pointer (some ⟨w.heap.size, 0, none⟩)) true ty).run Tryz.prog (w.iter ⟨l.toArray⟩ pos) = _ := fun ty => run_next_any w ⟨l.toArray⟩ pos ty (by rw [hszH.out]; exact hp)
        have hdl := decode_le ⟨l.toArray⟩ pos
        rw [dec_list l pos] at hnx hdl
        have hne : l.drop pos ≠ [] := by
          intro h
          have := congrArg List.length h
          rw [List.length_drop] at this
          simp at this
          omega
        have HD := Lib.hid (dec_ch (l.drop pos) hne)
        have hle := chN_le (l.drop pos)
        rw [List.length_drop] at hle
        by_cases h0 : chN (l.drop pos) = 0
        · have HK := Lib.hid (cntK_none _ k hne h0)
          have H0 := Lib.hid h0
          clear h0
          go_wp2_with fail
          refine (isChar_eq _ _ false _ hdl (HD.out.1 H0.out)).mono ?_
          rintro e w' ⟨rfl, rfl⟩
          go_wp2
          go_ret
          exact ⟨ret_int (by rw [hR.out, hc.out, HK.out]), (Below.refl _ _).alloc (Nat.le_refl _) _⟩
        · have HK := Lib.hid (cntK_step _ k h0)
          have H0 : Hid (_ ∧ _) := HD.out.2 h0
          have hpos1 : 0 < chN (l.drop pos) := by omega
          clear h0
          go_wp2_with fail
          refine (isChar_eq _ _ true _ hdl (H0.out.1)).mono ?_
          rintro e w' ⟨rfl, rfl⟩
          go_wp2
          go_roundw
          case rel => exact ⟨pos + chN (l.drop pos), k + 1, by rw [H0.out.2]; rfl, by go_num, by omega, by omega, by
            show _ = _
            rw [hc.out, HK.out, List.drop_drop]⟩
          case measure =>
            rw [H0.out.2]
            show _ - World.iterPos (w.iter ⟨l.toArray⟩ (pos + chN (l.drop pos))) _ < _
            simp
            omega
      · have hnx : ∀ ty, (Instr.next (.pointer (some ⟨w.heap.size, 0, none⟩)) true ty).run Tryz.prog (w.iter ⟨l.toArray⟩ pos) = _ := fun ty => run_next_end w ⟨l.toArray⟩ pos ty (by rw [hszH.out]; exact hp)
        have HE : Hid (l.drop pos = []) := List.drop_eq_nil_of_le (by omega)
        go_wp2
        go_ret
        exact ⟨ret_int (by rw [hR.out, hc.out, HE.out, cntK_end]), (Below.refl _ _).alloc (Nat.le_refl _) _⟩

theorem textValid_eq (l : List UInt8) (b : Bool) (w : World) (hl : l.length ≤ 9223372036854775807) (h : valB l = b) :
    Calls Tryz.prog 30 #[.string ⟨l.toArray⟩] w fun e w' => e = .returned (.bool b) ∧ Below w.heap.size w w' := by
  have H := Lib.hid h
  clear h
  go_enter Tryz.func30, Tryz.ntmps30
  go_wp2_with fail
  refine (textCount_any l _ hl).mono ?_
  rintro e w' ⟨rfl, hb⟩
  go_wp2
  go_ret
  exact ⟨by rw [← H.out]; rfl, hb⟩

/-- A field. -/
def fieldL (l : List UInt8) : List UInt8 := toB ((l.length : Int) / 256) :: toB ((l.length : Int) % 256) :: l
theorem fieldL_len (l : List UInt8) : (fieldL l).length = l.length + 2 := by simp [fieldL]
theorem words_one (n : Int) (h0 : 0 ≤ n) (h1 : n ≤ 65535) : wordsR [n] = ([toB (n / 256), toB (n % 256)], 0) := by
  rw [wordsR_yes _ (by simp [wordB]; omega)]; rfl

theorem clone_any (l : List UInt8) (w : World) (hl : l.length ≤ 281474976710656) :
    Calls Tryz.prog 34 #[.string ⟨l.toArray⟩] w fun e w' => e = .returned (.string ⟨l.toArray⟩) ∧ Below w.heap.size w w' := by
  go_enter Tryz.func34, Tryz.ntmps34
  go_wp2_with fail
  refine (Tryz.stringslite_Clone _ _ (by show l.toArray.size ≤ _; simpa using hl)).mono ?_
  rintro e w1 ⟨rfl, hb1⟩
  go_wp2
  go_ret
  exact ⟨rfl, hb1⟩

/-- What GetData answers. -/
def getD : List UInt8 → List UInt8 × Int × Int
  | a :: b :: r => if (r.length : Int) < a.toNat * 256 + b.toNat then ([], 0, 2) else (r.take (a.toNat * 256 + b.toNat), (a.toNat : Int) * 256 + b.toNat + 2, 0)
  | _ => ([], 0, 2)
/-- What Get answers. -/
def getR (l : List UInt8) : List UInt8 × Int × Int :=
  if (getD l).2.2 = 0 then if valB (getD l).1 then getD l else ([], 0, 5) else getD l
theorem getD_err (l : List UInt8) (h : (getD l).2.2 ≠ 0) : getD l = ([], 0, 2) := by
  rcases l with _ | ⟨a, _ | ⟨b, l⟩⟩
  · rfl
  · rfl
  · simp only [getD] at h ⊢
    split
    · rfl
    · rename_i h1
      rw [if_neg h1] at h
      exact absurd rfl h
theorem getD_len (l : List UInt8) : (getD l).1.length ≤ l.length := by
  rcases l with _ | ⟨a, _ | ⟨b, l⟩⟩
  · simp [getD]
  · simp [getD]
  · simp only [getD]; split
    · simp
    · simp; omega
/-- What Put answers. -/
def putR (xs : List (List UInt8)) : List UInt8 × Int := if xs.all valB then (xs.flatMap fieldL, 0) else ([], 5)
theorem put_no (xs : List (List UInt8)) (k : Nat) (x : List UInt8) (hx : xs[k]? = some x) (h : valB x = false) : putR xs = ([], 5) := by
  unfold putR; rw [if_neg]
  have : xs.all valB = false := by
    rw [List.all_eq_false]
    exact ⟨x, List.mem_of_getElem? hx, by simp [h]⟩
  simp [this]
theorem put_yes (xs : List (List UInt8)) (h : xs.all valB = true) : putR xs = (xs.flatMap fieldL, 0) := by unfold putR; rw [if_pos h]
theorem val_snoc (xs : List (List UInt8)) (k : Nat) (x : List UInt8) (hx : xs[k]? = some x) (h : valB x = true) (hk : (xs.take k).all valB = true) : (xs.take (k + 1)).all valB = true := by
  rw [List.take_add_one, hx, List.all_append, hk]; simp [h]
theorem fields_snoc (xs : List (List UInt8)) (k : Nat) (x : List UInt8) (hx : xs[k]? = some x) : (xs.take (k + 1)).flatMap fieldL = (xs.take k).flatMap fieldL ++ fieldL x := by
  rw [List.take_add_one, hx, List.flatMap_append]; simp
section
variable {E : TypeId} {B : Nat} {w0 wr : World} {v : Value} {l : List UInt8}
theorem wpList_bufs {P : Program} {ops : Array Oper} {rest : List Oper} {o : Oper} {a : Act} {Q : Exit → Act → World → Prop} (hgd : o.guard = none) (s x : Operand) (T U : TypeId)
    (ho : o.op = .call { callee := .builtin .append, args := #[s, x], argTypes := #[T, U] })
    (hT : P.underlying T = some (.slice E)) (hU : P.underlying U = some .string) (hE : (P.info? E).map (fun i => (i.zero, i.size, i.bytes)) = some (some (.int .u8 0), 1, 1))
    (hs : a.eval s = v) (hb : Buf E B w0 wr v l) (t : List UInt8) (hx : a.eval x = .string ⟨t.toArray⟩)
    (hl : l.length + t.length ≤ 140737488355328)
    (h : ∀ v' w', Buf E B w0 w' v' (l ++ t) → wpList P ops Q rest (a.put o.dst v') w') : wpList P ops Q (o :: rest) a wr := by
  obtain ⟨i, hi, hz0, hz1, hz2⟩ := info_parts hE
  obtain ⟨hown, hbel, hB⟩ := hb
  have hsz : (ByteArray.mk t.toArray).size = t.length := by show t.toArray.size = _; simp
  refine Lib.wpList_append_own_string wr hgd s x T U ho B E i hT hU hi hz0 hz1 hz2 v l.length (bcells l) hs hown ⟨t.toArray⟩ hx (by rw [hsz]; unfold maxLen; omega) (by rw [hsz]; exact hl) hB ?_
  intro v' w' hown' hgr _
  refine h v' w' ⟨?_, ?_, ?_⟩
  · rw [List.length_append, bcells_append]
    rw [hsz] at hown'
    have e : Lib.strCells ⟨t.toArray⟩ = bcells t := by simp [Lib.strCells, bcells]
    rw [e] at hown'
    exact hown'
  · exact hbel.grown hgr hB (fun k hk => (hown.lt k hk).1)
  · exact Nat.le_trans hB hgr.size
end
theorem strCells_list (l : List UInt8) : Lib.strCells ⟨l.toArray⟩ = bcells l := by
  unfold Lib.strCells bcells
  simp
end Go.Proofs.YthhadjnffeadfaaGreatDoor
