/-
  write's statements: what their helpers answer.
-/
import Derived.Test.YtangnkhehajikaaGreatDoorWrD
import Derived.Test.YtangnkhehajikaaGreatDoorPkGreat
set_option linter.unusedSimpArgs false
set_option linter.unusedVariables false
namespace Go.Proofs.YtangnkhehajikaaGreatDoor
open Go.RowKit
set_option maxRecDepth 100000
theorem encR_ok {p : Pk} {xs : List (List UInt8 × Int)} {s : List UInt8} (h : encR p xs = (s, 0)) : Ok p xs ∧ s = encL p xs ∧ sizR p xs = s.length := by
  unfold encR at h
  by_cases h0 : 0 ≤ restN p xs
  · rw [if_pos h0] at h
    have ho := ok_of h0
    have hs : s = encL p xs := (congrArg Prod.fst h).symm
    refine ⟨ho, hs, ?_⟩
    unfold sizR
    rw [if_pos h0, hs, enc_len ho]
  · rw [if_neg h0] at h
    cases h
/-- Two packets in a row. -/
def Pk2 (p : Pk) (A : Option Addr) (n c : Nat) (q : Pk) (B : Option Addr) (m d : Nat) : Array Value := PkC p A n c ++ PkC q B m d
@[go_sem] theorem fold_two0 (p : Pk) (A : Option Addr) (n c : Nat) : Array.foldl (fun (cs : Array Value) (x : Value × Nat) => cs.setIfInBounds x.snd x.fst)
    #[.int .u8 0, .bool false, .int .u8 0, .bool false, .int .u16 0, .string ⟨#[]⟩, .string ⟨#[]⟩, .int .u8 0, .bool false, .int .u16 0, .string ⟨#[]⟩, .bool false, .string ⟨#[]⟩, .string ⟨#[]⟩, .int .u8 0, .bool false, .bool false, .bool false, .string ⟨#[]⟩, .string ⟨#[]⟩, .bool false, .int .u8 0, .slice none 0 0, .string ⟨#[]⟩,
      .int .u8 0, .bool false, .int .u8 0, .bool false, .int .u16 0, .string ⟨#[]⟩, .string ⟨#[]⟩, .int .u8 0, .bool false, .int .u16 0, .string ⟨#[]⟩, .bool false, .string ⟨#[]⟩, .string ⟨#[]⟩, .int .u8 0, .bool false, .bool false, .bool false, .string ⟨#[]⟩, .string ⟨#[]⟩, .bool false, .int .u8 0, .slice none 0 0, .string ⟨#[]⟩]
    (PkC p A n c).zipIdx 0 24 = Pk2 p A n c zPk none 0 0 := by simp [Pk2, PkC, zPk]
@[go_sem] theorem fold_two1 (p q r : Pk) (A B C : Option Addr) (n c m d k e : Nat) : Array.foldl (fun (cs : Array Value) (x : Value × Nat) => cs.setIfInBounds (24 + x.snd) x.fst) (Pk2 p A n c r C k e) (PkC q B m d).zipIdx 0 24 = Pk2 p A n c q B m d := by simp [Pk2, PkC]
theorem pks_two {w : World} {g : Nat} {p q : Pk} {A B : Option Addr} {n c m d : Nat} {xs ys : List (List UInt8 × Int)} (h : rowAt w g = Pk2 p A n c q B m d) (hg : g < w.heap.size) (hs : Subs w A n xs) (hc : A = none → c = 0) (ks : Subs w B m ys) (kc : B = none → d = 0) : Pks w (some ⟨g, 0, none⟩) 2 [(p, xs), (q, ys)] := by
  refine ⟨rfl, fun _ => ⟨g, 0, rfl, hg, fun j x hx => ?_⟩⟩
  match j, hx with
  | 0, hx =>
    cases hx
    rw [h]
    exact ⟨by simp [Pk2], A, n, c, by simp [Pk2, PkC], hs, hc⟩
  | 1, hx =>
    cases hx
    rw [h]
    exact ⟨by simp [Pk2], B, m, d, by simp [Pk2, PkC], ks, kc⟩
  | j + 2, hx => simp at hx
def awE : Pk := zPk.s_ty 3
def awR : Pk := (zPk.s_ty 6).s_id 256
def awG : Pk := zPk.s_ty 12
def awC : Pk := ((((zPk.s_ty 1).s_level 4).s_clean true).s_keep 10).s_client [99]
def awP : Pk := (((((zPk.s_ty 3).s_topic [97, 47, 98]).s_qos 1).s_id 7).s_ret true).s_load [104, 105]
theorem awE_r : encR awE [] = ([], 4) := by decide +kernel
theorem awC_r : encR awC [] = ([16, 13, 0, 4, 77, 81, 84, 84, 4, 2, 0, 10, 0, 1, 99], 0) := by decide +kernel
theorem awP_r : encR awP [] = ([51, 9, 0, 3, 97, 47, 98, 0, 7, 104, 105], 0) := by decide +kernel
theorem awRG_r : allR [(awR, []), (awG, [])] = ([98, 2, 1, 0, 192, 0], 0) := by decide +kernel
theorem awE_f : Fit awE [] := by constructor <;> decide
theorem awC_f : Fit awC [] := by constructor <;> decide
theorem awP_f : Fit awP [] := by constructor <;> decide
theorem awR_f : Fit awR [] := by constructor <;> decide
theorem awG_f : Fit awG [] := by constructor <;> decide
end Go.Proofs.YtangnkhehajikaaGreatDoor
