/-
  write's statements: what their helpers answer.
-/
import Derived.Test.YtphdooaihbmnlaaGreatDoorWrD
import Derived.Test.YtphdooaihbmnlaaGreatDoorPkGreat
set_option linter.unusedSimpArgs false
set_option linter.unusedVariables false
namespace Go.Proofs.YtphdooaihbmnlaaGreatDoor
open Go.RowKit
set_option maxRecDepth 100000
theorem encR_ok {p : Pk} {xs : List (List UInt8 × Int)} {s : List UInt8} (h : encR p xs = (s, 0)) : Ok p xs ∧ s = encL p xs ∧ sizR p xs = s.length := by
  unfold encR at h
  by_cases h0 : 0 ≤ restN p xs
  · rw [if_pos h0] at h
    have ho := ok_of h0
    have hs : s = encL p xs := (congrArg Prod.fst h).symm
    refine ⟨ho, hs, ?_⟩
    unfold sizR
    rw [if_pos h0, hs, enc_len ho]
  · rw [if_neg h0] at h
    cases h
theorem writes_yes (p : Pk) (A : Option Addr) (n c : Nat) (xs : List (List UInt8 × Int)) (s : List UInt8) (w : World) (hG : Glo w) (hs : Subs w A n xs) (hc : A = none → c = 0) (hf : Fit p xs) (h : encR p xs = (s, 0)) :
    Calls Tryz.prog 15 #[.agg (PkC p A n c), .string ⟨s.toArray⟩] w fun e w' => e = .returned (.bool true) ∧ Below w.heap.size w w' := by
  have hK0 := (Kp.nil w).new (PkC p A n c) 27
  have HG := Lib.hid hG
  have HS := Lib.hid hs
  have HF := Lib.hid hf
  have HC := Lib.hid hc
  have HR := Lib.hid h
  have HZ := Lib.hid (encR_ok h).2.2
  clear hG hs hf hc h
  go_enter Tryz.func15, Tryz.ntmps15
  go_wp2_with fail
  refine (encode_eq p A n c xs s 0 _ (HG.out.below hK0.below) (HS.out.below hK0.below) HC.out HF.out HR.out).mono ?_
  rintro e w6 ⟨rfl, hb6⟩
  have hK1 := hK0.more hb6
  clear hb6 hK0
  have a1r := hK1.row; have a1f := hK1.free; have a1c := hK1.cell; have a1l := hK1.lt; have a1z := hK1.froz
  go_wp2_with fail
  refine (size_eq p A n c xs (s.length : Int) _ (HG.out.below hK1.below) (HS.out.below hK1.below) HF.out HZ.out).mono ?_
  rintro e w7 ⟨rfl, hb7⟩
  have hK2 := hK1.more hb7
  clear a1r a1f a1c a1z a1l hb7
  go_wp2_with fail
  go_ret
  exact ⟨rfl, hK2.below⟩
/-- Two packets in a row. -/
def Pk2 (p : Pk) (A : Option Addr) (n c : Nat) (q : Pk) (B : Option Addr) (m d : Nat) : Array Value := PkC p A n c ++ PkC q B m d
@[go_sem] theorem fold_two0 (p : Pk) (A : Option Addr) (n c : Nat) : Array.foldl (fun (cs : Array Value) (x : Value × Nat) => cs.setIfInBounds x.snd x.fst)
    #[.int .u8 0, .bool false, .int .u8 0, .bool false, .int .u16 0, .string ⟨#[]⟩, .string ⟨#[]⟩, .int .u8 0, .bool false, .int .u16 0, .string ⟨#[]⟩, .bool false, .string ⟨#[]⟩, .string ⟨#[]⟩, .int .u8 0, .bool false, .bool false, .bool false, .string ⟨#[]⟩, .string ⟨#[]⟩, .bool false, .int .u8 0, .slice none 0 0, .string ⟨#[]⟩,
      .int .u8 0, .bool false, .int .u8 0, .bool false, .int .u16 0, .string ⟨#[]⟩, .string ⟨#[]⟩, .int .u8 0, .bool false, .int .u16 0, .string ⟨#[]⟩, .bool false, .string ⟨#[]⟩, .string ⟨#[]⟩, .int .u8 0, .bool false, .bool false, .bool false, .string ⟨#[]⟩, .string ⟨#[]⟩, .bool false, .int .u8 0, .slice none 0 0, .string ⟨#[]⟩]
    (PkC p A n c).zipIdx 0 24 = Pk2 p A n c zPk none 0 0 := by simp [Pk2, PkC, zPk]
@[go_sem] theorem fold_two1 (p q r : Pk) (A B C : Option Addr) (n c m d k e : Nat) : Array.foldl (fun (cs : Array Value) (x : Value × Nat) => cs.setIfInBounds (24 + x.snd) x.fst) (Pk2 p A n c r C k e) (PkC q B m d).zipIdx 0 24 = Pk2 p A n c q B m d := by simp [Pk2, PkC]
theorem pks_two {w : World} {g : Nat} {p q : Pk} {A B : Option Addr} {n c m d : Nat} {xs ys : List (List UInt8 × Int)} (h : rowAt w g = Pk2 p A n c q B m d) (hg : g < w.heap.size) (hs : Subs w A n xs) (hc : A = none → c = 0) (ks : Subs w B m ys) (kc : B = none → d = 0) : Pks w (some ⟨g, 0, none⟩) 2 [(p, xs), (q, ys)] := by
  refine ⟨rfl, fun _ => ⟨g, 0, rfl, hg, fun j x hx => ?_⟩⟩
  match j, hx with
  | 0, hx =>
    cases hx
    rw [h]
    exact ⟨by simp [Pk2], A, n, c, by simp [Pk2, PkC], hs, hc⟩
  | 1, hx =>
    cases hx
    rw [h]
    exact ⟨by simp [Pk2], B, m, d, by simp [Pk2, PkC], ks, kc⟩
  | j + 2, hx => simp at hx
def awE : Pk := zPk.s_ty 3
def awR : Pk := (zPk.s_ty 6).s_id 256
def awG : Pk := zPk.s_ty 12
def awC : Pk := ((((zPk.s_ty 1).s_level 4).s_clean true).s_keep 10).s_client [99]
def awP : Pk := (((((zPk.s_ty 3).s_topic [97, 47, 98]).s_qos 1).s_id 7).s_ret true).s_load [104, 105]
theorem awE_r : encR awE [] = ([], 4) := by decide +kernel
theorem awC_r : encR awC [] = ([16, 13, 0, 4, 77, 81, 84, 84, 4, 2, 0, 10, 0, 1, 99], 0) := by decide +kernel
theorem awP_r : encR awP [] = ([51, 9, 0, 3, 97, 47, 98, 0, 7, 104, 105], 0) := by decide +kernel
theorem awRG_r : allR [(awR, []), (awG, [])] = ([98, 2, 1, 0, 192, 0], 0) := by decide +kernel
theorem awE_f : Fit awE [] := by constructor <;> decide
theorem awC_f : Fit awC [] := by constructor <;> decide
theorem awP_f : Fit awP [] := by constructor <;> decide
theorem awR_f : Fit awR [] := by constructor <;> decide
theorem awG_f : Fit awG [] := by constructor <;> decide
set_option maxHeartbeats 2000000 in
theorem awake_any (w : World) (hG : Glo w) :
    Calls Tryz.prog 6 #[] w fun e w' => e = .returned (.bool true) ∧ Below w.heap.size w w' := by
  have HG := Lib.hid hG
  clear hG
  go_enter Tryz.func6, Tryz.ntmps6
  go_wp2_with fail
  refine (encode_eq awE none 0 0 [] [] 4 _ HG.out (Subs.nil _) (fun _ => rfl) awE_f awE_r).mono ?_
  rintro e w1 ⟨rfl, hb⟩
  go_wp2_with fail
  have hK := ((Kp.nil w1).new (Pk2 awR none 0 0 awG none 0 0) 27)
  refine (all_eq _ 2 _ [(awR, []), (awG, [])] [98, 2, 1, 0, 192, 0] 0 _ (HG.out.below (below_more hb hK.below)) (pks_two (p := awR) (q := awG) hK.row hK.lt (Subs.nil _) (fun _ => rfl) (Subs.nil _) (fun _ => rfl)) (by omega) (by
    intro x hx
    simp only [List.mem_cons, List.mem_nil_iff, or_false] at hx
    rcases hx with rfl | rfl
    · exact awR_f
    · exact awG_f) awRG_r).mono ?_
  rintro e w2 ⟨rfl, hb2⟩
  replace hb := below_more (below_more hb hK.below) hb2
  clear hb2 hK
  go_wp2_with fail
  refine (writes_yes awC none 0 0 [] _ _ (HG.out.below hb) (Subs.nil _) (fun _ => rfl) awC_f awC_r).mono ?_
  rintro e w3 ⟨rfl, hb3⟩
  replace hb := below_more hb hb3
  clear hb3
  go_wp2_with fail
  refine (writes_yes awP none 0 0 [] _ _ (HG.out.below hb) (Subs.nil _) (fun _ => rfl) awP_f awP_r).mono ?_
  rintro e w3 ⟨rfl, hb3⟩
  replace hb := below_more hb hb3
  clear hb3
  go_wp2_with fail
  go_ret
  exact ⟨rfl, hb⟩
end Go.Proofs.YtphdooaihbmnlaaGreatDoor
