/-
  frame's statements: Great.
-/
import Derived.Test.YtnaedcennichlaaGreatDoorKit
set_option linter.unusedSimpArgs false
set_option linter.unusedVariables false
namespace Go.Proofs.YtnaedcennichlaaGreatDoor
open Go.RowKit
set_option maxRecDepth 100000
/-- What Great answers. -/
def FGP (w : World) (ss : List (List UInt8)) (n : Nat) (e : Ending) (w' : World) : Prop := ∃ r, e = .returned (.bool r) ∧ w' = w ∧ (r = false → ss.flatten.length ≤ 20000 ∧ n ≤ 200)
/-- Great: at most 200 pieces, of 20000 bytes together. -/
theorem fgreat_any (A : Option Addr) (n c : Nat) (ss : List (List UInt8)) (w : World) (hs : Strs w A n ss) (hl : ∀ x ∈ ss, x.length ≤ 9223372036854775807) (hn : n ≤ 9223372036854775807) :
    Calls Tryz.prog 4 #[.slice A n c] w fun e w' => FGP w ss n e w' := by
  have HS := Lib.hid hs
  have HL := Lib.hid hl
  have hlen := Lib.hid hs.len
  clear hs hl
  go_enter Tryz.func4, Tryz.ntmps4
  go_wp2_with fail
  go_loopw [3, 4] (fun l i wr => ∃ k q : Nat, l = .int .i64 q ∧ i = .int .i64 k ∧ k ≤ n ∧ wr = w ∧ Hid (q + (ss.take k).flatten.length = 20000)) (fun _ i _ => n - (intOf i).toNat)
  case atStart => exact ⟨0, 20000, rfl, rfl, by omega, rfl, by show _ = _; simp⟩
  case round =>
    obtain ⟨k, q, rfl, rfl, hk, rfl, hq⟩ := hrel
    by_cases hlt : k < n
    · have hlt2 : (k : Int) < (n : Int) := by omega
      have k0 : (0 : Int) ≤ (k : Int) := by omega
      obtain ⟨b, off, x, rfl, hx, hcell⟩ := HS.out.at_ hlt
      have hxl := HL.out x (List.mem_of_getElem? hx)
      have HT : Hid ((ss.take (k + 1)).flatten.length = (ss.take k).flatten.length + x.length) := by show _ = _; rw [List.take_add_one, hx]; simp
      clear hx
      by_cases hg : q < x.length
      · have hd : decide ((q : Int) < (x.length : Int)) = true := by simp; omega
        go_wp2_with fail
        go_ret
        exact ⟨true, rfl, rfl, fun h => by cases h⟩
      · have hd : decide ((q : Int) < (x.length : Int)) = false := by simp; omega
        have hq2 := hq.out
        have hq20 : q ≤ 20000 := by omega
        obtain ⟨q2, hq3⟩ : ∃ q2 : Nat, q2 = q - x.length := ⟨_, rfl⟩
        have hqI : (q : Int) - (x.length : Int) = (q2 : Int) := by omega
        have hw : IntKind.i64.wrap (q2 : Int) = q2 := IntWalk.i64_in _ (by omega)
        have HN : Hid (q2 + (ss.take (k + 1)).flatten.length = 20000) := by show _ = _; rw [HT.out]; omega
        clear hq2 hq hq3 HT
        go_wp2_with fail
        clear hw
        go_roundw
        case rel => exact ⟨k + 1, q2, by go_num, by go_num, by omega, trivial, HN⟩
        case measure => simp [intOf]; omega
    · have hge : ¬ (k : Int) < (n : Int) := by omega
      have hke : ss.take k = ss := List.take_of_length_le (by rw [hlen.out]; omega)
      have HQ := Lib.hid hq.out
      rw [hke] at HQ
      clear hq hke
      cases hd : decide (200 < (n : Int)) with
      | true =>
        go_wp2_with fail
        go_ret
        exact ⟨true, ret_bool (by simp), rfl, fun h => by cases h⟩
      | false =>
        go_wp2_with fail
        go_ret
        exact ⟨false, ret_bool (by simp), rfl, fun h => ⟨by have := HQ.out; omega, by simp at hd; omega⟩⟩
end Go.Proofs.YtnaedcennichlaaGreatDoor
