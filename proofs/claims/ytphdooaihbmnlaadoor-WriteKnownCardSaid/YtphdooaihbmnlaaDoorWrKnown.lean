/-
  WriteKnown.
-/
import Derived.Test.YtphdooaihbmnlaaDoorWrLaw
import Derived.Deep.OwnRows
set_option linter.unusedSimpArgs false
set_option linter.unusedVariables false
namespace Go.Proofs.YtphdooaihbmnlaaDoor
open Go.RowKit
set_option maxRecDepth 100000
namespace lawWriteKnown
def kA : Pk := ((((((((zPk.s_ty 1).s_level 4).s_client []).s_hasWill true).s_will [119] [0, 112] 2 true).s_hasUser true).s_user [117]).s_hasPass true).s_pass [255]
theorem kA_r : encR kA [] = ([16, 25, 0, 4, 77, 81, 84, 84, 4, 244, 0, 0, 0, 0, 0, 1, 119, 0, 2, 0, 112, 0, 1, 117, 0, 1, 255], 0) := by decide +kernel
theorem kA_f : Fit kA [] := by constructor <;> decide
def kB : Pk := (zPk.s_ty 2).s_present true
theorem kB_r : encR kB [] = ([32, 2, 1, 0], 0) := by decide +kernel
theorem kB_f : Fit kB [] := by constructor <;> decide
def kC : Pk := (zPk.s_ty 2).s_code 2
theorem kC_r : encR kC [] = ([32, 2, 0, 2], 0) := by decide +kernel
theorem kC_f : Fit kC [] := by constructor <;> decide
def kD : Pk := ((((zPk.s_ty 3).s_topic [97]).s_qos 2).s_id 258).s_dup true
theorem kD_r : encR kD [] = ([60, 5, 0, 1, 97, 1, 2], 0) := by decide +kernel
theorem kD_f : Fit kD [] := by constructor <;> decide
def kE : Pk := (zPk.s_ty 3).s_topic [97]
theorem kE_r : encR kE [] = ([48, 3, 0, 1, 97], 0) := by decide +kernel
theorem kE_f : Fit kE [] := by constructor <;> decide
def kH : Pk := ((zPk.s_ty 9).s_id 1).s_codes [2, 128]
theorem kH_r : encR kH [] = ([144, 4, 0, 1, 2, 128], 0) := by decide +kernel
theorem kH_f : Fit kH [] := by constructor <;> decide
def kN0 : Pk := (zPk.s_ty 4).s_id 513
theorem kN0_r : encR kN0 [] = ([64, 2, 2, 1], 0) := by decide +kernel
theorem kN0_f : Fit kN0 [] := by constructor <;> decide
def kN1 : Pk := (zPk.s_ty 5).s_id 513
theorem kN1_r : encR kN1 [] = ([80, 2, 2, 1], 0) := by decide +kernel
theorem kN1_f : Fit kN1 [] := by constructor <;> decide
def kN2 : Pk := (zPk.s_ty 6).s_id 513
theorem kN2_r : encR kN2 [] = ([98, 2, 2, 1], 0) := by decide +kernel
theorem kN2_f : Fit kN2 [] := by constructor <;> decide
def kN3 : Pk := (zPk.s_ty 7).s_id 513
theorem kN3_r : encR kN3 [] = ([112, 2, 2, 1], 0) := by decide +kernel
theorem kN3_f : Fit kN3 [] := by constructor <;> decide
def kU : Pk := (zPk.s_ty 11).s_id 9
theorem kU_r : encR kU [] = ([176, 2, 0, 9], 0) := by decide +kernel
theorem kU_f : Fit kU [] := by constructor <;> decide
def kV : Pk := zPk.s_ty 13
theorem kV_r : encR kV [] = ([208, 0], 0) := by decide +kernel
theorem kV_f : Fit kV [] := by constructor <;> decide
def kW : Pk := zPk.s_ty 14
theorem kW_r : encR kW [] = ([224, 0], 0) := by decide +kernel
theorem kW_f : Fit kW [] := by constructor <;> decide
def kF : Pk := (zPk.s_ty 8).s_id 1
def kG : Pk := (zPk.s_ty 10).s_id 1
theorem kF_r : encR kF [([97, 47, 43], 2)] = ([130, 8, 0, 1, 0, 3, 97, 47, 43, 2], 0) := by decide +kernel
theorem kG_r : encR kG [([35], 0), ([98], 0)] = ([162, 8, 0, 1, 0, 1, 35, 0, 1, 98], 0) := by decide +kernel
theorem kF_f : Fit kF [([97, 47, 43], 2)] := by
  constructor <;> first | decide | (intro x hx; simp only [List.mem_cons, List.mem_nil_iff, or_false] at hx; subst hx; constructor <;> decide)
theorem kG_f : Fit kG [([35], 0), ([98], 0)] := by
  constructor <;> first | decide | (intro x hx; simp only [List.mem_cons, List.mem_nil_iff, or_false] at hx; rcases hx with rfl | rfl <;> constructor <;> decide)
def kP : Pk := zPk.s_ty 12
def kQ : Pk := zPk.s_ty 15
theorem kP_f : Fit kP [] := by constructor <;> decide
theorem kQ_f : Fit kQ [] := by constructor <;> decide
theorem kPQ_r : allR [(kP, []), (kQ, [])] = ([], 4) := by decide +kernel
theorem kno_r : allR [] = ([], 0) := rfl
def kL (Z : List UInt8) : Pk := ((zPk.s_ty 3).s_topic [97]).s_load Z
theorem kL_r : encR (kL (List.replicate 125 0)) [] = (encL (kL (List.replicate 125 0)) [], 0) := by decide +kernel
theorem kL_l : (encL (kL (List.replicate 125 0)) []).length = 131 := by decide +kernel
theorem kL_t : (encL (kL (List.replicate 125 0)) []).take 4 = [48, 128, 1, 0] := by decide +kernel
theorem kL_f : Fit (kL (List.replicate 125 0)) [] := by constructor <;> decide
theorem kZ_r : sizR zPk [] = 0 := by decide +kernel
theorem kZ_f : Fit zPk [] := by constructor <;> decide
theorem subs_two {w : World} {g : Nat} {f f2 : List UInt8} {q q2 : Int} (h : rowAt w g = SbC f q ++ SbC f2 q2) (hg : g < w.heap.size) : Subs w (some ⟨g, 0, none⟩) 2 [(f, q), (f2, q2)] := by
  refine ⟨rfl, fun _ => ⟨g, 0, rfl, hg, fun j x hx => ?_⟩⟩
  match j, hx with
  | 0, hx =>
    cases hx
    rw [h]
    exact ⟨by simp [SbC], by simp [SbC]⟩
  | 1, hx =>
    cases hx
    rw [h]
    exact ⟨by simp [SbC], by simp [SbC]⟩
  | j + 2, hx => simp at hx
@[go_sem] theorem fold_ms (p : Pk) (A : Option Addr) (n c : Nat) (t l : List UInt8) (q : Int) (r : Bool) : Array.foldl (fun (cs : Array Value) (x : Value × Nat) => cs.setIfInBounds (12 + x.snd) x.fst) (PkC p A n c) (MsC t l q r).zipIdx 0 4 = PkC (p.s_will t l q r) A n c := by simp [PkC, MsC, Pk.s_will]
@[go_sem] theorem fold2 (x y : List UInt8) (a b : Int) : Array.foldl (fun (cs : Array Value) (x : Value × Nat) => cs.setIfInBounds (2 + x.snd) x.fst) (Array.foldl (fun (cs : Array Value) (x : Value × Nat) => cs.setIfInBounds x.snd x.fst) #[.string ⟨#[]⟩, .int .u8 0, .string ⟨#[]⟩, .int .u8 0] (SbC x a).zipIdx 0 2) (SbC y b).zipIdx 0 2 = SbC x a ++ SbC y b := by simp [SbC]
/-- A block of bytes, as a string. -/
theorem conv_blk {P : Program} {T E S : TypeId} (hT : P.underlying T = some (.slice E)) (hE : P.underlying E = some (.int .u8)) (hS : P.underlying S = some .string) (w : World) (g c : Nat) (l : List UInt8) (h : rowAt w g = (bcells l).toArray) :
    (convert T S (.slice (some ⟨g, 0, none⟩) l.length c)).run P w = .ok (.string ⟨l.toArray⟩) w := by
  refine run_convert_bytes_back _ T S E ⟨g, 0, none⟩ c l hT hE hS (fun j hj => ?_)
  have hadd : (⟨g, 0, none⟩ : Addr).add j = ⟨g, j, none⟩ := by unfold Addr.add; split <;> simp_all
  have hz : j < (rowAt w g).size := by rw [h]; simpa [bcells] using hj
  have := rowAt_cell hz
  rw [hadd, this, h]
  simp [bcells, List.getElem?_eq_getElem hj]
theorem conv_new4 {P : Program} {T E S : TypeId} (hT : P.underlying T = some (.slice E)) (hE : P.underlying E = some (.int .u8)) (hS : P.underlying S = some .string) (w : World) (x y z u : Int) (x0 : 0 ≤ x) (x1 : x < 256) (y0 : 0 ≤ y) (y1 : y < 256) (z0 : 0 ≤ z) (z1 : z < 256) (u0 : 0 ≤ u) (u1 : u < 256) :
    (convert T S (.slice (some ⟨w.heap.size, 0, none⟩) 4 4)).run P (w.alloc (.cells #[.int .u8 x, .int .u8 y, .int .u8 z, .int .u8 u] E)) = .ok (.string ⟨[toB x, toB y, toB z, toB u].toArray⟩) (w.alloc (.cells #[.int .u8 x, .int .u8 y, .int .u8 z, .int .u8 u] E)) := by
  have h := conv_blk hT hE hS (w.alloc (.cells #[.int .u8 x, .int .u8 y, .int .u8 z, .int .u8 u] E)) w.heap.size 4 [toB x, toB y, toB z, toB u] (by
    rw [rowAt_alloc_at _ _ _ rfl]
    simp [bcells, toB_toNat x x0 x1, toB_toNat y y0 y1, toB_toNat z z0 z1, toB_toNat u u0 u1])
  exact h
set_option maxHeartbeats 16000000 in
theorem walk (w : World) (hG : Glo w) : Calls Tryd.prog 3 #[] w fun e w' => e = .returned (.bool true) ∧ Below w.heap.size w w' := by
  have HG := Lib.hid hG
  have hb : Below w.heap.size w w := Below.refl _ _
  clear hG
  go_enter Tryd.func3, Tryd.ntmps3
  go_upto_region 2 with fail
  have hK0 := (Kp.nil w).new (PkC kA none 0 0) 27
  have a1r := hK0.row; have a1f := hK0.free; have a1c := hK0.cell; have a1l := hK0.lt; have a1z := hK0.froz
  go_wp2_with fail
  refine (writes_yes kA none 0 0 [] _ _ (HG.out.below hK0.below) (Subs.nil _) (fun _ => rfl) kA_f kA_r).mono ?_
  rintro e w1 ⟨rfl, hb1⟩
  replace hb := below_more hK0.below hb1
  clear hK0 a1r a1f a1c a1l a1z
  clear hb1
  go_wp2_with fail
  refine (writes_yes kB none 0 0 [] _ _ (HG.out.below hb) (Subs.nil _) (fun _ => rfl) kB_f kB_r).mono ?_
  rintro e w1 ⟨rfl, hb1⟩
  replace hb := below_more hb hb1
  clear hb1
  go_wp2_with fail
  refine (writes_yes kC none 0 0 [] _ _ (HG.out.below hb) (Subs.nil _) (fun _ => rfl) kC_f kC_r).mono ?_
  rintro e w1 ⟨rfl, hb1⟩
  replace hb := below_more hb hb1
  clear hb1
  go_wp2_with fail
  refine (writes_yes kD none 0 0 [] _ _ (HG.out.below hb) (Subs.nil _) (fun _ => rfl) kD_f kD_r).mono ?_
  rintro e w1 ⟨rfl, hb1⟩
  replace hb := below_more hb hb1
  clear hb1
  go_wp2_with fail
  refine (writes_yes kE none 0 0 [] _ _ (HG.out.below hb) (Subs.nil _) (fun _ => rfl) kE_f kE_r).mono ?_
  rintro e w1 ⟨rfl, hb1⟩
  replace hb := below_more hb hb1
  clear hb1
  go_wp2_with fail
  have hK := (Kp.nil w1).new (SbC [97, 47, 43] 2) 30
  refine (writes_yes kF _ 1 1 [([97, 47, 43], 2)] _ _ (HG.out.below (below_more hb hK.below)) (subs_one hK.row hK.lt) (fun e => by cases e) kF_f kF_r).mono ?_
  rintro e w1 ⟨rfl, hb1⟩
  replace hb := below_more (below_more hb hK.below) hb1
  clear hb1 hK
  go_wp2_with fail
  have hK := (Kp.nil w1).new (SbC [35] 0 ++ SbC [98] 0) 30
  refine (writes_yes kG _ 2 2 [([35], 0), ([98], 0)] _ _ (HG.out.below (below_more hb hK.below)) (subs_two hK.row hK.lt) (fun e => by cases e) kG_f kG_r).mono ?_
  rintro e w1 ⟨rfl, hb1⟩
  replace hb := below_more (below_more hb hK.below) hb1
  clear hb1 hK
  go_wp2_with fail
  refine (writes_yes kH none 0 0 [] _ _ (HG.out.below hb) (Subs.nil _) (fun _ => rfl) kH_f kH_r).mono ?_
  rintro e w1 ⟨rfl, hb1⟩
  replace hb := below_more hb hb1
  clear hb1
  go_upto_region 7 with fail
  obtain ⟨w9, hw9⟩ : ∃ w9 : World, w9 = w1 := ⟨_, rfl⟩
  rw [← hw9] at hb ⊢
  clear hw9
  have hK := (Kp.nil w9).new #[.int .u8 64, .int .u8 80, .int .u8 98, .int .u8 112] 5
  generalize hww : World.alloc _ _ = wb at hK ⊢
  clear hww
  go_wp2_with fail
  go_loopw [3] (fun i wr => ∃ k : Nat, i = .int .i64 k ∧ k ≤ 4 ∧ Kp w9 [(w9.heap.size, #[.int .u8 64, .int .u8 80, .int .u8 98, .int .u8 112], 5)] wr) (fun i _ => 4 - (intOf i).toNat)
  case atStart => exact ⟨0, rfl, by omega, hK⟩
  case round =>
    clear hK
    obtain ⟨k, rfl, hk, hK2⟩ := hrel
    have a1r := hK2.row; have a1f := hK2.free; have a1c := hK2.cell; have a1l := hK2.lt; have a1z := hK2.froz
    have hcs : k = 0 ∨ k = 1 ∨ k = 2 ∨ k = 3 ∨ k = 4 := by omega
    rcases hcs with rfl | rfl | rfl | rfl | rfl
    · have hcv := fun W => conv_new4 (P := Tryd.prog) (S := 9) Tryd.underlying31 Tryd.underlying5 Tryd.underlying9 W 64 2 2 1 (by omega) (by omega) (by omega) (by omega) (by omega) (by omega) (by omega) (by omega)
      simp only [show [toB 64, toB 2, toB 2, toB 1] = [64, 2, 2, 1] from by decide] at hcv
      have hK3 := hK2.new #[.int .u8 64, .int .u8 2, .int .u8 2, .int .u8 1] 5
      go_wp2_with fail
      refine (writes_yes kN0 none 0 0 [] _ _ (HG.out.below (below_more hb hK3.below)) (Subs.nil _) (fun _ => rfl) kN0_f kN0_r).mono ?_
      rintro e w1 ⟨rfl, hb1⟩
      have hK4 := (hK3.more hb1).tail
      clear hb1 hK3 hK2 a1r a1f a1c a1l a1z hcv
      go_wp2_with fail
      go_roundw
      case rel => exact ⟨1, by go_num, by omega, hK4⟩
      case measure => simp [intOf]
    · have hcv := fun W => conv_new4 (P := Tryd.prog) (S := 9) Tryd.underlying31 Tryd.underlying5 Tryd.underlying9 W 80 2 2 1 (by omega) (by omega) (by omega) (by omega) (by omega) (by omega) (by omega) (by omega)
      simp only [show [toB 80, toB 2, toB 2, toB 1] = [80, 2, 2, 1] from by decide] at hcv
      have hK3 := hK2.new #[.int .u8 80, .int .u8 2, .int .u8 2, .int .u8 1] 5
      go_wp2_with fail
      refine (writes_yes kN1 none 0 0 [] _ _ (HG.out.below (below_more hb hK3.below)) (Subs.nil _) (fun _ => rfl) kN1_f kN1_r).mono ?_
      rintro e w1 ⟨rfl, hb1⟩
      have hK4 := (hK3.more hb1).tail
      clear hb1 hK3 hK2 a1r a1f a1c a1l a1z hcv
      go_wp2_with fail
      go_roundw
      case rel => exact ⟨2, by go_num, by omega, hK4⟩
      case measure => simp [intOf]
    · have hcv := fun W => conv_new4 (P := Tryd.prog) (S := 9) Tryd.underlying31 Tryd.underlying5 Tryd.underlying9 W 98 2 2 1 (by omega) (by omega) (by omega) (by omega) (by omega) (by omega) (by omega) (by omega)
      simp only [show [toB 98, toB 2, toB 2, toB 1] = [98, 2, 2, 1] from by decide] at hcv
      have hK3 := hK2.new #[.int .u8 98, .int .u8 2, .int .u8 2, .int .u8 1] 5
      go_wp2_with fail
      refine (writes_yes kN2 none 0 0 [] _ _ (HG.out.below (below_more hb hK3.below)) (Subs.nil _) (fun _ => rfl) kN2_f kN2_r).mono ?_
      rintro e w1 ⟨rfl, hb1⟩
      have hK4 := (hK3.more hb1).tail
      clear hb1 hK3 hK2 a1r a1f a1c a1l a1z hcv
      go_wp2_with fail
      go_roundw
      case rel => exact ⟨3, by go_num, by omega, hK4⟩
      case measure => simp [intOf]
    · have hcv := fun W => conv_new4 (P := Tryd.prog) (S := 9) Tryd.underlying31 Tryd.underlying5 Tryd.underlying9 W 112 2 2 1 (by omega) (by omega) (by omega) (by omega) (by omega) (by omega) (by omega) (by omega)
      simp only [show [toB 112, toB 2, toB 2, toB 1] = [112, 2, 2, 1] from by decide] at hcv
      have hK3 := hK2.new #[.int .u8 112, .int .u8 2, .int .u8 2, .int .u8 1] 5
      go_wp2_with fail
      refine (writes_yes kN3 none 0 0 [] _ _ (HG.out.below (below_more hb hK3.below)) (Subs.nil _) (fun _ => rfl) kN3_f kN3_r).mono ?_
      rintro e w1 ⟨rfl, hb1⟩
      have hK4 := (hK3.more hb1).tail
      clear hb1 hK3 hK2 a1r a1f a1c a1l a1z hcv
      go_wp2_with fail
      go_roundw
      case rel => exact ⟨4, by go_num, by omega, hK4⟩
      case measure => simp [intOf]
    · have hb2 := below_more hb hK2.below
      clear hb hK2 a1r a1f a1c a1l a1z
      go_wp2_with fail
      refine (all_eq none 0 0 [] [] 0 _ (HG.out.below hb2) (Pks.nil _) (by omega) (fun x hx => by cases hx) rfl).mono ?_
      rintro e w1 ⟨rfl, hb1⟩
      have hb := below_more hb2 hb1
      clear hb1 hb2
      go_wp2_with fail
      have hK := ((Kp.nil w1).new (Pk2 kP none 0 0 kQ none 0 0) 27)
      refine (all_eq _ 2 _ [(kP, []), (kQ, [])] [] 4 _ (HG.out.below (below_more hb hK.below)) (pks_two (p := kP) (q := kQ) hK.row hK.lt (Subs.nil _) (fun _ => rfl) (Subs.nil _) (fun _ => rfl)) (by omega) (by
        intro x hx
        simp only [List.mem_cons, List.mem_nil_iff, or_false] at hx
        rcases hx with rfl | rfl
        · exact kP_f
        · exact kQ_f) kPQ_r).mono ?_
      rintro e w2 ⟨rfl, hb2⟩
      replace hb := below_more (below_more hb hK.below) hb2
      clear hb2 hK
      have hmk : ∀ W : World, (Instr.makeSlice 31 (.int .i64 125) (.int .i64 125)).run Tryd.prog W = .ok (.slice (some ⟨W.heap.size, 0, none⟩) 125 125) (W.alloc (.cells (madeCells #[.int .u8 0] 125) 5)) := fun W => run_make_row' (P := Tryd.prog) 31 5 (.int .u8 0) 1 Tryd.underlying31 info8 rfl .i64 .i64 125 (by omega) (by omega) W
      have hcv : ∀ W : World, (convert 31 9 (.slice (some ⟨W.heap.size, 0, none⟩) 125 125)).run Tryd.prog (W.alloc (.cells (madeCells #[.int .u8 0] 125) 5)) = .ok (.string ⟨(List.replicate 125 (0 : UInt8)).toArray⟩) (W.alloc (.cells (madeCells #[.int .u8 0] 125) 5)) := fun W => conv_blk (P := Tryd.prog) (S := 9) Tryd.underlying31 Tryd.underlying5 Tryd.underlying9 (W.alloc (.cells (madeCells #[.int .u8 0] 125) 5)) W.heap.size 125 (List.replicate 125 0) (by rw [rowAt_alloc_at _ _ _ rfl]; kernel_rfl)
      have hLf := kL_f
      have hLr := kL_r
      have hLl := kL_l
      have hLt := kL_t
      obtain ⟨Z, hZ⟩ : ∃ Z, List.replicate 125 (0 : UInt8) = Z := ⟨_, rfl⟩
      rw [hZ] at hLr hLl hLt hLf
      simp only [hZ] at hcv
      obtain ⟨S, hS⟩ : ∃ S, encL (kL Z) [] = S := ⟨_, rfl⟩
      rw [hS] at hLr hLl hLt
      have hLt2 : (S.take 4).drop 0 = [48, 128, 1, 0] := hLt
      have HLR := Lib.hid hLr
      have HLF := Lib.hid hLf
      clear hLr hS hZ hLf
      go_wp2_with fail
      have hK := (Kp.nil w2).new (madeCells #[.int .u8 0] 125) 5
      refine (encode_eq (kL Z) none 0 0 [] S 0 _ (HG.out.below (below_more hb hK.below)) (Subs.nil _) (fun _ => rfl) HLF.out HLR.out).mono ?_
      rintro e w3 ⟨rfl, hb3⟩
      replace hb := below_more (below_more hb hK.below) hb3
      clear hb3 hK hmk hcv
      go_wp2_with fail
      refine (writes_yes kU none 0 0 [] _ _ (HG.out.below hb) (Subs.nil _) (fun _ => rfl) kU_f kU_r).mono ?_
      rintro e w4 ⟨rfl, hb3⟩
      replace hb := below_more hb hb3
      clear hb3
      go_wp2_with fail
      refine (writes_yes kV none 0 0 [] _ _ (HG.out.below hb) (Subs.nil _) (fun _ => rfl) kV_f kV_r).mono ?_
      rintro e w4 ⟨rfl, hb3⟩
      replace hb := below_more hb hb3
      clear hb3
      go_wp2_with fail
      refine (writes_yes kW none 0 0 [] _ _ (HG.out.below hb) (Subs.nil _) (fun _ => rfl) kW_f kW_r).mono ?_
      rintro e w4 ⟨rfl, hb3⟩
      replace hb := below_more hb hb3
      clear hb3
      go_wp2_with fail
      refine (size_eq zPk none 0 0 [] 0 _ (HG.out.below hb) (Subs.nil _) kZ_f kZ_r).mono ?_
      rintro e w5 ⟨rfl, hb3⟩
      replace hb := below_more hb hb3
      clear hb3
      go_wp2_with fail
      refine (awake_any _ (HG.out.below hb)).mono ?_
      rintro e w6 ⟨rfl, hb3⟩
      replace hb := below_more hb hb3
      clear hb3
      go_wp2_with fail
      go_ret
      exact ⟨rfl, hb⟩
end lawWriteKnown
end Go.Proofs.YtphdooaihbmnlaaDoor
