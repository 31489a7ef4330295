/-
  RdKit, RdCut, RdPar, RdCon, RdSubs in one. (By tools/cmerge.py.)
-/
import Derived.Test.YtnaedcennichlaaGreatDoorPkI
import Derived.Test.YtnaedcennichlaaGreatDoorTextWalks
import Derived.Test.YtnaedcennichlaaGreatDoorMc
import Derived.Deep.AppendLies
import Derived.Deep.RegionLaw
set_option linter.unusedSimpArgs false
set_option linter.unusedVariables false
/-
  A byte reader, alone or in a parser: its row of cells, and what its methods do.
-/
namespace Go.Proofs.YtnaedcennichlaaGreatDoor
open Go.RowKit
set_option maxRecDepth 100000
/-- The cells of a reader, and what stands behind it. -/
def Rw (l : List UInt8) (f : Bool) (R : Array Value) : Array Value := #[.string ⟨l.toArray⟩, .bool f] ++ R
section
variable {l l' : List UInt8} {f f' : Bool} {R R' : Array Value} {p q : Pk} {A B : Option Addr} {n c m d : Nat}
@[go_sem, simp] theorem Rw_size : (Rw l f R).size = R.size + 2 := by simp [Rw]; omega
@[go_sem] theorem Rw_one : ones (Rw l f R) = ones R := by simp [Rw, ones, Value.oneCell']
@[go_sem] theorem Rw_ne : (Rw l f R = #[]) = False := by simp [Rw]
@[go_sem high] theorem Rw_0 : (Rw l f R)[0]? = some (.string ⟨l.toArray⟩) := by unfold Rw; rw [Array.getElem?_append_left (by simp)]; rfl
@[go_sem high] theorem Rw_1 : (Rw l f R)[1]? = some (.bool f) := by unfold Rw; rw [Array.getElem?_append_left (by simp)]; rfl
@[go_sem] theorem Rw_set0 (x : List UInt8) : (Rw l f R).setIfInBounds 0 (.string ⟨x.toArray⟩) = Rw x f R := by simp [Rw]
@[go_sem] theorem Rw_set1 (x : Bool) : (Rw l f R).setIfInBounds 1 (.bool x) = Rw l x R := by simp [Rw]
theorem Rw_get (k : Nat) : (Rw l f R)[k + 2]? = R[k]? := by unfold Rw; rw [Array.getElem?_append_right (by simp)]; simp
theorem Rw_put (k : Nat) (v : Value) : (Rw l f R).setIfInBounds (k + 2) v = Rw l f (R.setIfInBounds k v) := by
  apply Array.ext_getElem?
  intro i
  rw [Array.getElem?_setIfInBounds]
  match i with
  | 0 => rw [if_neg (by omega), Rw_0, Rw_0]
  | 1 => rw [if_neg (by omega), Rw_1, Rw_1]
  | i + 2 =>
    rw [Rw_get, Rw_get, Array.getElem?_setIfInBounds]
    simp
@[go_sem high] theorem Rw_2 : (Rw l f R)[2]? = R[0]? := Rw_get 0
@[go_sem] theorem Rw_set2 (v : Value) : (Rw l f R).setIfInBounds 2 v = Rw l f (R.setIfInBounds 0 v) := Rw_put 0 v
@[go_sem high] theorem Rw_3 : (Rw l f R)[3]? = R[1]? := Rw_get 1
@[go_sem] theorem Rw_set3 (v : Value) : (Rw l f R).setIfInBounds 3 v = Rw l f (R.setIfInBounds 1 v) := Rw_put 1 v
@[go_sem high] theorem Rw_4 : (Rw l f R)[4]? = R[2]? := Rw_get 2
@[go_sem] theorem Rw_set4 (v : Value) : (Rw l f R).setIfInBounds 4 v = Rw l f (R.setIfInBounds 2 v) := Rw_put 2 v
@[go_sem high] theorem Rw_5 : (Rw l f R)[5]? = R[3]? := Rw_get 3
@[go_sem] theorem Rw_set5 (v : Value) : (Rw l f R).setIfInBounds 5 v = Rw l f (R.setIfInBounds 3 v) := Rw_put 3 v
@[go_sem high] theorem Rw_6 : (Rw l f R)[6]? = R[4]? := Rw_get 4
@[go_sem] theorem Rw_set6 (v : Value) : (Rw l f R).setIfInBounds 6 v = Rw l f (R.setIfInBounds 4 v) := Rw_put 4 v
@[go_sem high] theorem Rw_7 : (Rw l f R)[7]? = R[5]? := Rw_get 5
@[go_sem] theorem Rw_set7 (v : Value) : (Rw l f R).setIfInBounds 7 v = Rw l f (R.setIfInBounds 5 v) := Rw_put 5 v
@[go_sem high] theorem Rw_8 : (Rw l f R)[8]? = R[6]? := Rw_get 6
@[go_sem] theorem Rw_set8 (v : Value) : (Rw l f R).setIfInBounds 8 v = Rw l f (R.setIfInBounds 6 v) := Rw_put 6 v
@[go_sem high] theorem Rw_9 : (Rw l f R)[9]? = R[7]? := Rw_get 7
@[go_sem] theorem Rw_set9 (v : Value) : (Rw l f R).setIfInBounds 9 v = Rw l f (R.setIfInBounds 7 v) := Rw_put 7 v
@[go_sem high] theorem Rw_10 : (Rw l f R)[10]? = R[8]? := Rw_get 8
@[go_sem] theorem Rw_set10 (v : Value) : (Rw l f R).setIfInBounds 10 v = Rw l f (R.setIfInBounds 8 v) := Rw_put 8 v
@[go_sem high] theorem Rw_11 : (Rw l f R)[11]? = R[9]? := Rw_get 9
@[go_sem] theorem Rw_set11 (v : Value) : (Rw l f R).setIfInBounds 11 v = Rw l f (R.setIfInBounds 9 v) := Rw_put 9 v
@[go_sem high] theorem Rw_12 : (Rw l f R)[12]? = R[10]? := Rw_get 10
@[go_sem] theorem Rw_set12 (v : Value) : (Rw l f R).setIfInBounds 12 v = Rw l f (R.setIfInBounds 10 v) := Rw_put 10 v
@[go_sem high] theorem Rw_13 : (Rw l f R)[13]? = R[11]? := Rw_get 11
@[go_sem] theorem Rw_set13 (v : Value) : (Rw l f R).setIfInBounds 13 v = Rw l f (R.setIfInBounds 11 v) := Rw_put 11 v
@[go_sem high] theorem Rw_14 : (Rw l f R)[14]? = R[12]? := Rw_get 12
@[go_sem] theorem Rw_set14 (v : Value) : (Rw l f R).setIfInBounds 14 v = Rw l f (R.setIfInBounds 12 v) := Rw_put 12 v
@[go_sem high] theorem Rw_15 : (Rw l f R)[15]? = R[13]? := Rw_get 13
@[go_sem] theorem Rw_set15 (v : Value) : (Rw l f R).setIfInBounds 15 v = Rw l f (R.setIfInBounds 13 v) := Rw_put 13 v
@[go_sem high] theorem Rw_16 : (Rw l f R)[16]? = R[14]? := Rw_get 14
@[go_sem] theorem Rw_set16 (v : Value) : (Rw l f R).setIfInBounds 16 v = Rw l f (R.setIfInBounds 14 v) := Rw_put 14 v
@[go_sem high] theorem Rw_17 : (Rw l f R)[17]? = R[15]? := Rw_get 15
@[go_sem] theorem Rw_set17 (v : Value) : (Rw l f R).setIfInBounds 17 v = Rw l f (R.setIfInBounds 15 v) := Rw_put 15 v
@[go_sem high] theorem Rw_18 : (Rw l f R)[18]? = R[16]? := Rw_get 16
@[go_sem] theorem Rw_set18 (v : Value) : (Rw l f R).setIfInBounds 18 v = Rw l f (R.setIfInBounds 16 v) := Rw_put 16 v
@[go_sem high] theorem Rw_19 : (Rw l f R)[19]? = R[17]? := Rw_get 17
@[go_sem] theorem Rw_set19 (v : Value) : (Rw l f R).setIfInBounds 19 v = Rw l f (R.setIfInBounds 17 v) := Rw_put 17 v
@[go_sem high] theorem Rw_20 : (Rw l f R)[20]? = R[18]? := Rw_get 18
@[go_sem] theorem Rw_set20 (v : Value) : (Rw l f R).setIfInBounds 20 v = Rw l f (R.setIfInBounds 18 v) := Rw_put 18 v
@[go_sem high] theorem Rw_21 : (Rw l f R)[21]? = R[19]? := Rw_get 19
@[go_sem] theorem Rw_set21 (v : Value) : (Rw l f R).setIfInBounds 21 v = Rw l f (R.setIfInBounds 19 v) := Rw_put 19 v
@[go_sem high] theorem Rw_22 : (Rw l f R)[22]? = R[20]? := Rw_get 20
@[go_sem] theorem Rw_set22 (v : Value) : (Rw l f R).setIfInBounds 22 v = Rw l f (R.setIfInBounds 20 v) := Rw_put 20 v
@[go_sem high] theorem Rw_23 : (Rw l f R)[23]? = R[21]? := Rw_get 21
@[go_sem] theorem Rw_set23 (v : Value) : (Rw l f R).setIfInBounds 23 v = Rw l f (R.setIfInBounds 21 v) := Rw_put 21 v
@[go_sem high] theorem Rw_24 : (Rw l f R)[24]? = R[22]? := Rw_get 22
@[go_sem] theorem Rw_set24 (v : Value) : (Rw l f R).setIfInBounds 24 v = Rw l f (R.setIfInBounds 22 v) := Rw_put 22 v
@[go_sem high] theorem Rw_25 : (Rw l f R)[25]? = R[23]? := Rw_get 23
@[go_sem] theorem Rw_set25 (v : Value) : (Rw l f R).setIfInBounds 25 v = Rw l f (R.setIfInBounds 23 v) := Rw_put 23 v
@[go_sem] theorem Rw_g0 (h : 0 < (Rw l f R).size) : (Rw l f R)[0]'h = .string ⟨l.toArray⟩ := Option.some.inj (by rw [← Array.getElem?_eq_getElem h, Rw_0])
@[go_sem] theorem Rw_g1 (h : 1 < (Rw l f R).size) : (Rw l f R)[1]'h = .bool f := Option.some.inj (by rw [← Array.getElem?_eq_getElem h, Rw_1])
theorem Rw_at (k : Nat) (h : k + 2 < (Rw l f R).size) : (Rw l f R)[k + 2]'h = R[k]'(by rw [Rw_size] at h; omega) := Option.some.inj (by rw [← Array.getElem?_eq_getElem h, Rw_get, Array.getElem?_eq_getElem])
@[go_sem] theorem Rw_g2 (h : 2 < (Rw l f R).size) : (Rw l f R)[2]'h = R[0]'(by rw [Rw_size] at h; omega) := Rw_at 0 h
@[go_sem] theorem Rw_g3 (h : 3 < (Rw l f R).size) : (Rw l f R)[3]'h = R[1]'(by rw [Rw_size] at h; omega) := Rw_at 1 h
@[go_sem] theorem Rw_g4 (h : 4 < (Rw l f R).size) : (Rw l f R)[4]'h = R[2]'(by rw [Rw_size] at h; omega) := Rw_at 2 h
@[go_sem] theorem Rw_g5 (h : 5 < (Rw l f R).size) : (Rw l f R)[5]'h = R[3]'(by rw [Rw_size] at h; omega) := Rw_at 3 h
@[go_sem] theorem Rw_g6 (h : 6 < (Rw l f R).size) : (Rw l f R)[6]'h = R[4]'(by rw [Rw_size] at h; omega) := Rw_at 4 h
@[go_sem] theorem Rw_g7 (h : 7 < (Rw l f R).size) : (Rw l f R)[7]'h = R[5]'(by rw [Rw_size] at h; omega) := Rw_at 5 h
@[go_sem] theorem Rw_g8 (h : 8 < (Rw l f R).size) : (Rw l f R)[8]'h = R[6]'(by rw [Rw_size] at h; omega) := Rw_at 6 h
@[go_sem] theorem Rw_g9 (h : 9 < (Rw l f R).size) : (Rw l f R)[9]'h = R[7]'(by rw [Rw_size] at h; omega) := Rw_at 7 h
@[go_sem] theorem Rw_g10 (h : 10 < (Rw l f R).size) : (Rw l f R)[10]'h = R[8]'(by rw [Rw_size] at h; omega) := Rw_at 8 h
@[go_sem] theorem Rw_g11 (h : 11 < (Rw l f R).size) : (Rw l f R)[11]'h = R[9]'(by rw [Rw_size] at h; omega) := Rw_at 9 h
@[go_sem] theorem Rw_g12 (h : 12 < (Rw l f R).size) : (Rw l f R)[12]'h = R[10]'(by rw [Rw_size] at h; omega) := Rw_at 10 h
@[go_sem] theorem Rw_g13 (h : 13 < (Rw l f R).size) : (Rw l f R)[13]'h = R[11]'(by rw [Rw_size] at h; omega) := Rw_at 11 h
@[go_sem] theorem Rw_g14 (h : 14 < (Rw l f R).size) : (Rw l f R)[14]'h = R[12]'(by rw [Rw_size] at h; omega) := Rw_at 12 h
@[go_sem] theorem Rw_g15 (h : 15 < (Rw l f R).size) : (Rw l f R)[15]'h = R[13]'(by rw [Rw_size] at h; omega) := Rw_at 13 h
@[go_sem] theorem Rw_g16 (h : 16 < (Rw l f R).size) : (Rw l f R)[16]'h = R[14]'(by rw [Rw_size] at h; omega) := Rw_at 14 h
@[go_sem] theorem Rw_g17 (h : 17 < (Rw l f R).size) : (Rw l f R)[17]'h = R[15]'(by rw [Rw_size] at h; omega) := Rw_at 15 h
@[go_sem] theorem Rw_g18 (h : 18 < (Rw l f R).size) : (Rw l f R)[18]'h = R[16]'(by rw [Rw_size] at h; omega) := Rw_at 16 h
@[go_sem] theorem Rw_g19 (h : 19 < (Rw l f R).size) : (Rw l f R)[19]'h = R[17]'(by rw [Rw_size] at h; omega) := Rw_at 17 h
@[go_sem] theorem Rw_g20 (h : 20 < (Rw l f R).size) : (Rw l f R)[20]'h = R[18]'(by rw [Rw_size] at h; omega) := Rw_at 18 h
@[go_sem] theorem Rw_g21 (h : 21 < (Rw l f R).size) : (Rw l f R)[21]'h = R[19]'(by rw [Rw_size] at h; omega) := Rw_at 19 h
@[go_sem] theorem Rw_g22 (h : 22 < (Rw l f R).size) : (Rw l f R)[22]'h = R[20]'(by rw [Rw_size] at h; omega) := Rw_at 20 h
@[go_sem] theorem Rw_g23 (h : 23 < (Rw l f R).size) : (Rw l f R)[23]'h = R[21]'(by rw [Rw_size] at h; omega) := Rw_at 21 h
@[go_sem] theorem Rw_g24 (h : 24 < (Rw l f R).size) : (Rw l f R)[24]'h = R[22]'(by rw [Rw_size] at h; omega) := Rw_at 22 h
@[go_sem] theorem Rw_g25 (h : 25 < (Rw l f R).size) : (Rw l f R)[25]'h = R[23]'(by rw [Rw_size] at h; omega) := Rw_at 23 h
@[go_sem] theorem Rw_left : (Rw l f (PkC p A n c)).extract 2 26 = PkC p A n c := by simp [Rw, PkC]
@[go_sem] theorem Rw_all : (Rw l f (PkC p A n c)).extract 0 26 = Rw l f (PkC p A n c) := by simp [Rw, PkC]
@[go_sem] theorem Rw_two : (Rw l f #[]).extract 0 2 = Rw l f #[] := by simp [Rw]
@[go_sem] theorem spl_Rw : spl (Rw l f (PkC p A n c)) 0 (Rw l' f' (PkC q B m d)).toList = Rw l' f' (PkC q B m d) := by simp [Rw, PkC, spl]
@[go_sem] theorem spl_Rd : spl (Rw l f #[]) 0 (Rw l' f' #[]).toList = Rw l' f' #[] := by simp [Rw, spl]
end
@[go_sem] theorem Rd_fold (l : List UInt8) (f : Bool) : (#[.string ⟨l.toArray⟩, .bool f] : Array Value) = Rw l f #[] := by rw [Rw]; rfl
@[go_sem] theorem Ps_fold (l : List UInt8) (f : Bool) (x_ty : Int) (x_dup : Bool) (x_qos : Int) (x_ret : Bool) (x_id : Int) (x_topic : List UInt8) (x_load : List UInt8) (x_level : Int) (x_clean : Bool) (x_keep : Int) (x_client : List UInt8) (x_hasWill : Bool) (x_wt : List UInt8) (x_wl : List UInt8) (x_wq : Int) (x_wr : Bool) (x_hasUser : Bool) (x_hasPass : Bool) (x_user : List UInt8) (x_pass : List UInt8) (x_present : Bool) (x_code : Int) (x_codes : List UInt8) (A : Option Addr) (n c : Nat) : (#[.string ⟨l.toArray⟩, .bool f, .int .u8 x_ty, .bool x_dup, .int .u8 x_qos, .bool x_ret, .int .u16 x_id, .string ⟨x_topic.toArray⟩, .string ⟨x_load.toArray⟩, .int .u8 x_level, .bool x_clean, .int .u16 x_keep, .string ⟨x_client.toArray⟩, .bool x_hasWill, .string ⟨x_wt.toArray⟩, .string ⟨x_wl.toArray⟩, .int .u8 x_wq, .bool x_wr, .bool x_hasUser, .bool x_hasPass, .string ⟨x_user.toArray⟩, .string ⟨x_pass.toArray⟩, .bool x_present, .int .u8 x_code, .slice A n c, .string ⟨x_codes.toArray⟩] : Array Value) = Rw l f (PkC ⟨x_ty, x_dup, x_qos, x_ret, x_id, x_topic, x_load, x_level, x_clean, x_keep, x_client, x_hasWill, x_wt, x_wl, x_wq, x_wr, x_hasUser, x_hasPass, x_user, x_pass, x_present, x_code, x_codes⟩ A n c) := by simp [Rw, PkC]
section
variable {w0 w : World} {g : Nat} {l : List UInt8} {f : Bool} {R : Array Value} {t : TypeId} {L : List (Nat × Array Value × TypeId)}
theorem rFail (h : Kp w0 ((g, Rw l f R, t) :: L) w) (hne : ∀ x ∈ L, x.1 ≠ g) :
    Calls Tryz.prog 63 #[.pointer (some ⟨g, 0, none⟩)] w fun e w' => e = .returned (.tuple #[]) ∧ Kp w0 ((g, Rw [] true R, t) :: L) w' := by
  have hfin : Kp w0 ((g, Rw [] true R, t) :: L) (w.setRow g (Rw [] true R)) := h.set hne _
  have a1r := h.row; have a1f := h.free; have a1c := h.cell; have a1l := h.lt; have a1z := h.froz
  clear h
  go_enter Tryz.func63, Tryz.ntmps63
  go_wp2_with fail
  go_end0
  exact ⟨rfl, hfin⟩
theorem rDrop (h : Kp w0 ((g, Rw l f R, t) :: L) w) (hne : ∀ x ∈ L, x.1 ≠ g) (k : Int) (h0 : 0 ≤ k) (hk : k ≤ l.length) :
    Calls Tryz.prog 64 #[.pointer (some ⟨g, 0, none⟩), .int .i64 k] w fun e w' => e = .returned (.tuple #[]) ∧ Kp w0 ((g, Rw (l.drop k.toNat) f R, t) :: L) w' := by
  have hfin : Kp w0 ((g, Rw (l.drop k.toNat) f R, t) :: L) (w.setRow g (Rw (l.drop k.toNat) f R)) := h.set hne _
  obtain ⟨j, rfl⟩ : ∃ j : Nat, k = j := ⟨k.toNat, by omega⟩
  rw [Int.toNat_natCast] at hfin ⊢
  have hj : j ≤ l.length := by omega
  have a1r := h.row; have a1f := h.free; have a1c := h.cell; have a1l := h.lt; have a1z := h.froz
  clear h
  go_enter Tryz.func64, Tryz.ntmps64
  go_wp2_with fail
  go_end0
  exact ⟨rfl, hfin⟩
theorem rByte (h : Kp w0 ((g, Rw l f R, t) :: L) w) (hne : ∀ x ∈ L, x.1 ≠ g) (hl : l.length ≤ 1000000000) :
    Calls Tryz.prog 52 #[.pointer (some ⟨g, 0, none⟩)] w fun e w' => e = .returned (.int .u8 (byV l)) ∧ Kp w0 ((g, Rw (l.tail) (byF l f) R, t) :: L) w' := by
  cases l with
  | nil =>
    have hK := h
    have a1r := h.row; have a1f := h.free; have a1c := h.cell; have a1l := h.lt; have a1z := h.froz
    clear h
    go_enter Tryz.func52, Tryz.ntmps52
    go_wp2_with fail
    refine (rFail hK hne).mono ?_
    rintro e w1 ⟨rfl, hK1⟩
    go_wp2_with fail
    go_ret
    exact ⟨rfl, hK1⟩
  | cons b r =>
    have hK := h
    have hlen : 1 ≤ (b :: r).length := by simp
    have HV : Hid (byV (b :: r) = (b.toNat : Int)) := rfl
    have HF : Hid (byF (b :: r) f = f) := by show _ = _; simp [byF]
    have HB : ∀ h0 : 0 < (b :: r).length, (b :: r)[0] = b := fun _ => rfl
    obtain ⟨S, hS⟩ : ∃ S, S = b :: r := ⟨_, rfl⟩
    have hS0 : (S == []) = false := by rw [hS]; rfl
    rw [← hS] at hK h hlen HV HF hl ⊢
    have HA : Hid (∀ h0 : 0 < S.length, S[0] = b) := by show _; intro h0; subst hS; rfl
    clear hS HB
    have a1r := h.row; have a1f := h.free; have a1c := h.cell; have a1l := h.lt; have a1z := h.froz
    clear h
    go_enter Tryz.func52, Tryz.ntmps52
    go_wp2_with fail
    refine (rDrop hK hne 1 (by omega) (by omega)).mono ?_
    rintro e w1 ⟨rfl, hK1⟩
    go_wp2_with fail
    go_ret
    refine ⟨?_, by rw [HF.out, ← List.drop_one]; exact hK1⟩
    rw [HV.out, ← HA.out (by omega)]
    rfl
theorem rField (h : Kp w0 ((g, Rw l f R, t) :: L) w) (hne : ∀ x ∈ L, x.1 ≠ g) (x : List UInt8) (u e : Int) (hu : e = 0 → 0 ≤ u ∧ u ≤ l.length) :
    Calls Tryz.prog 61 #[.pointer (some ⟨g, 0, none⟩), .string ⟨x.toArray⟩, .int .i64 u, .int .i64 e] w fun e' w' => e' = .returned (.string ⟨(gtV (x, u, e)).toArray⟩) ∧ Kp w0 ((g, Rw (gtL l (x, u, e)) (gtF f (x, u, e)) R, t) :: L) w' := by
  by_cases he : e = 0
  · subst he
    obtain ⟨h0, h1⟩ := hu rfl
    go_enter Tryz.func61, Tryz.ntmps61
    go_wp2_with fail
    refine (rDrop h hne u h0 h1).mono ?_
    rintro e w1 ⟨rfl, hK1⟩
    go_wp2_with fail
    go_ret
    exact ⟨rfl, hK1⟩
  · have hb : (e != 0) = true := by simpa using he
    have hV : Hid (gtV (x, u, e) = []) := by show _ = _; unfold gtV; rw [if_neg he]
    have hL : Hid (gtL l (x, u, e) = []) := by show _ = _; unfold gtL; rw [if_neg he]
    have hF : Hid (gtF f (x, u, e) = true) := by show _ = _; unfold gtF; rw [if_neg he]
    clear hu
    go_enter Tryz.func61, Tryz.ntmps61
    go_wp2_with fail
    refine (rFail h hne).mono ?_
    rintro e w1 ⟨rfl, hK1⟩
    go_wp2_with fail
    go_ret
    exact ⟨by rw [hV.out]; rfl, by rw [hL.out, hF.out]; exact hK1⟩
theorem getD_used (l : List UInt8) (h : (getD l).2.2 = 0) : 0 ≤ (getD l).2.1 ∧ (getD l).2.1 ≤ l.length := by
  obtain ⟨h1, h2, h3⟩ := getD_ok (l := l) (x := (getD l).1) (n := (getD l).2.1) (by rw [← h])
  have := congrArg List.length h1
  rw [List.length_append, fieldL_len, List.length_drop] at this
  omega
theorem getR_used (l : List UInt8) (h : (getR l).2.2 = 0) : 0 ≤ (getR l).2.1 ∧ (getR l).2.1 ≤ l.length := by
  obtain ⟨_, h1⟩ := getR_ok (l := l) (x := (getR l).1) (n := (getR l).2.1) (by rw [← h])
  have := getD_used l (by rw [h1])
  rw [h1] at this
  exact this
theorem rText (h : Kp w0 ((g, Rw l f R, t) :: L) w) (hne : ∀ x ∈ L, x.1 ≠ g) (hl : l.length ≤ 1000000000) :
    Calls Tryz.prog 51 #[.pointer (some ⟨g, 0, none⟩)] w fun e w' => e = .returned (.string ⟨(gtV (getR l)).toArray⟩) ∧ Kp w0 ((g, Rw (gtL l (getR l)) (gtF f (getR l)) R, t) :: L) w' := by
  have hu := Lib.hid (getR_used l)
  obtain ⟨x, hx⟩ : ∃ x, x = (getR l).1 := ⟨_, rfl⟩
  obtain ⟨u, hu1⟩ : ∃ u, u = (getR l).2.1 := ⟨_, rfl⟩
  obtain ⟨e, he⟩ : ∃ e, e = (getR l).2.2 := ⟨_, rfl⟩
  have hg : getR l = (x, u, e) := by rw [hx, hu1, he]
  have HG := Lib.hid (get_any l · hl)
  rw [hg] at HG hu ⊢
  clear hx hu1 he hg
  have hK := h
  have a1r := h.row; have a1f := h.free; have a1c := h.cell; have a1l := h.lt; have a1z := h.froz
  clear h
  go_enter Tryz.func51, Tryz.ntmps51
  go_wp2_with fail
  refine (HG.out _).mono ?_
  rintro e1 w1 ⟨rfl, hb1⟩
  have hK1 := hK.more hb1
  clear a1r a1f a1c a1l a1z hK hb1
  go_wp2_with fail
  refine (rField hK1 hne x u e hu.out).mono ?_
  rintro e1 w2 ⟨rfl, hK2⟩
  go_wp2_with fail
  go_ret
  exact ⟨rfl, hK2⟩
theorem rData (h : Kp w0 ((g, Rw l f R, t) :: L) w) (hne : ∀ x ∈ L, x.1 ≠ g) (hl : l.length ≤ 1000000000) :
    Calls Tryz.prog 83 #[.pointer (some ⟨g, 0, none⟩)] w fun e w' => e = .returned (.string ⟨(gtV (getD l)).toArray⟩) ∧ Kp w0 ((g, Rw (gtL l (getD l)) (gtF f (getD l)) R, t) :: L) w' := by
  have hu := Lib.hid (getD_used l)
  obtain ⟨x, hx⟩ : ∃ x, x = (getD l).1 := ⟨_, rfl⟩
  obtain ⟨u, hu1⟩ : ∃ u, u = (getD l).2.1 := ⟨_, rfl⟩
  obtain ⟨e, he⟩ : ∃ e, e = (getD l).2.2 := ⟨_, rfl⟩
  have hg : getD l = (x, u, e) := by rw [hx, hu1, he]
  have HG := Lib.hid (getData_any l · hl)
  rw [hg] at HG hu ⊢
  clear hx hu1 he hg
  have hK := h
  have a1r := h.row; have a1f := h.free; have a1c := h.cell; have a1l := h.lt; have a1z := h.froz
  clear h
  go_enter Tryz.func83, Tryz.ntmps83
  go_wp2_with fail
  refine (HG.out _).mono ?_
  rintro e1 w1 ⟨rfl, hb1⟩
  have hK1 := hK.more hb1
  clear a1r a1f a1c a1l a1z hK hb1
  go_wp2_with fail
  refine (rField hK1 hne x u e hu.out).mono ?_
  rintro e1 w2 ⟨rfl, hK2⟩
  go_wp2_with fail
  go_ret
  exact ⟨rfl, hK2⟩
theorem rAll (h : Kp w0 ((g, Rw l f R, t) :: L) w) (hne : ∀ x ∈ L, x.1 ≠ g) (hl : l.length ≤ 1000000000) :
    Calls Tryz.prog 70 #[.pointer (some ⟨g, 0, none⟩)] w fun e w' => e = .returned (.string ⟨l.toArray⟩) ∧ Kp w0 ((g, Rw [] f R, t) :: L) w' := by
  have hK := h
  have a1r := h.row; have a1f := h.free; have a1c := h.cell; have a1l := h.lt; have a1z := h.froz
  clear h
  go_enter Tryz.func70, Tryz.ntmps70
  go_wp2_with fail
  refine (clone_any l _ (by omega)).mono ?_
  rintro e1 w1 ⟨rfl, hb1⟩
  have hK1 := hK.more hb1
  have hfin : Kp w0 ((g, Rw [] f R, t) :: L) (w1.setRow g (Rw [] f R)) := hK1.set hne _
  clear a1r a1f a1c a1l a1z hK hb1
  have a1r := hK1.row; have a1f := hK1.free; have a1c := hK1.cell; have a1l := hK1.lt; have a1z := hK1.froz
  clear hK1
  go_wp2_with fail
  go_ret
  exact ⟨rfl, hfin⟩
theorem rWord (h : Kp w0 ((g, Rw l f R, t) :: L) w) (hne : ∀ x ∈ L, x.1 ≠ g) (hl : l.length ≤ 1000000000) :
    Calls Tryz.prog 68 #[.pointer (some ⟨g, 0, none⟩)] w fun e w' => e = .returned (.int .u16 (woV l)) ∧ Kp w0 ((g, Rw (woL l) (woF l f) R, t) :: L) w' := by
  have hK := h
  by_cases h2 : l.length < 2
  · have HV : Hid (woV l = 0 ∧ woL l = [] ∧ woF l f = true) := by
      rcases l with _ | ⟨a, _ | ⟨b, l⟩⟩
      · exact ⟨rfl, rfl, rfl⟩
      · exact ⟨rfl, rfl, rfl⟩
      · simp at h2; omega
    have a1r := h.row; have a1f := h.free; have a1c := h.cell; have a1l := h.lt; have a1z := h.froz
    clear h
    go_enter Tryz.func68, Tryz.ntmps68
    go_wp2_with fail
    refine (numReadWord_no l _ h2).mono ?_
    rintro e1 w1 ⟨rfl, hb1⟩
    have hK1 := hK.more hb1
    clear a1r a1f a1c a1l a1z hK hb1
    go_wp2_with fail
    refine (rFail hK1 hne).mono ?_
    rintro e1 w2 ⟨rfl, hK2⟩
    go_wp2_with fail
    go_ret
    exact ⟨by rw [HV.out.1]; rfl, by rw [HV.out.2.1, HV.out.2.2]; exact hK2⟩
  · obtain ⟨a, b, r, hr⟩ : ∃ a b r, l = a :: b :: r := by
      rcases l with _ | ⟨a, _ | ⟨b, l⟩⟩
      · simp at h2
      · simp at h2
      · exact ⟨_, _, _, rfl⟩
    have HV : Hid (woV l = (a.toNat : Int) * 256 + b.toNat ∧ woL l = l.drop 2 ∧ woF l f = f) := by rw [hr]; exact ⟨rfl, rfl, rfl⟩
    have ha := a.toNat_lt
    have hbb := b.toNat_lt
    have hw : IntKind.u16.wrap ((a.toNat : Int) * 256 + b.toNat) = (a.toNat : Int) * 256 + b.toNat := IntWalk.u16_in _ (by omega)
    have HR := Lib.hid hr
    clear hr
    have a1r := h.row; have a1f := h.free; have a1c := h.cell; have a1l := h.lt; have a1z := h.froz
    clear h
    go_enter Tryz.func68, Tryz.ntmps68
    go_wp2_with fail
    refine (numReadWord_yes l a b r _ HR.out (by omega)).mono ?_
    rintro e1 w1 ⟨rfl, hb1⟩
    have hK1 := hK.more hb1
    clear a1r a1f a1c a1l a1z hK hb1
    go_wp2_with fail
    refine (rDrop hK1 hne 2 (by omega) (by omega)).mono ?_
    rintro e1 w2 ⟨rfl, hK2⟩
    go_wp2_with fail
    go_ret
    exact ⟨by rw [HV.out.1]; rfl, by rw [HV.out.2.1, HV.out.2.2]; exact hK2⟩
end
end Go.Proofs.YtnaedcennichlaaGreatDoor

/-
  read: First, cut.
-/
namespace Go.Proofs.YtnaedcennichlaaGreatDoor
open Go.RowKit
set_option maxRecDepth 100000
theorem qosIn_any (a u : Int) (w : World) (h0 : 0 ≤ a) (h1 : a ≤ 255) (hu : u = 2 ∨ u = 8) :
    Calls Tryz.prog 50 #[.int .u8 a, .int .u8 u] w fun e w' => e = .returned (.int .u8 (a / u % 4)) ∧ w' = w := by
  have e1 : a.tdiv u = a / u := by rw [Int.tdiv_eq_ediv_of_nonneg h0]
  have hq : 0 ≤ a / u ∧ a / u ≤ 255 := by rcases hu with rfl | rfl <;> omega
  have e2 : (a / u).tmod 4 = a / u % 4 := by rw [Int.tmod_eq_emod_of_nonneg hq.1]
  have hu0 : u ≠ 0 := by omega
  have hw : IntKind.u8.wrap (a / u) = a / u := IntWalk.u8_in _ (by omega)
  have hw2 : IntKind.u8.wrap (a / u % 4) = a / u % 4 := IntWalk.u8_in _ (by omega)
  clear h0 h1
  rcases hu with rfl | rfl
  all_goals
    go_enter Tryz.func50, Tryz.ntmps50
    go_wp2_with fail
    go_ret
    exact ⟨rfl, rfl⟩
theorem first_any (c : Int) (w : World) (h0 : 0 ≤ c) (h1 : c ≤ 255) :
    Calls Tryz.prog 31 #[.int .u8 c] w fun e w' => e = .returned (.bool (firB c)) ∧ w' = w := by
  have e1 : c.tdiv 16 = c / 16 := by rw [Int.tdiv_eq_ediv_of_nonneg h0]
  have e2 : c.tmod 16 = c % 16 := by rw [Int.tmod_eq_emod_of_nonneg h0]
  have hw1 : IntKind.u8.wrap (c / 16) = c / 16 := IntWalk.u8_in _ (by omega)
  have hw2 : IntKind.u8.wrap (c % 16) = c % 16 := IntWalk.u8_in _ (by omega)
  have hk : 0 ≤ c / 16 ∧ c / 16 ≤ 15 := by omega
  have hm : 0 ≤ c % 16 ∧ c % 16 ≤ 15 := by omega
  unfold firB
  obtain ⟨k, hk1⟩ : ∃ k, k = c / 16 := ⟨_, rfl⟩
  obtain ⟨m, hm1⟩ : ∃ m, m = c % 16 := ⟨_, rfl⟩
  rw [← hk1] at e1 hw1 hk ⊢
  rw [← hm1] at e2 hw2 hm ⊢
  clear hk1 hm1
  by_cases h3 : k = 3
  · subst h3
    go_enter Tryz.func31, Tryz.ntmps31
    go_wp2_with fail
    refine (qosIn_any m 2 _ hm.1 (by omega) (Or.inl rfl)).mono ?_
    rintro e w1 ⟨rfl, rfl⟩
    go_wp2_with fail
    go_ret
    exact ⟨by simp, rfl⟩
  · have t3 : (k == 3) = false := by simpa using h3
    by_cases h6 : k = 6 ∨ k = 8 ∨ k = 10
    · have HR : Hid ((if k = 3 then decide (m / 2 % 4 ≤ 2) else if k = 6 ∨ k = 8 ∨ k = 10 then m == 2 else (decide (1 ≤ k) && decide (k ≤ 14)) && m == 0) = (m == 2)) := by show _ = _; rw [if_neg h3, if_pos h6]
      rw [HR.out]
      clear HR h3
      rcases h6 with rfl | rfl | rfl
      all_goals
        go_enter Tryz.func31, Tryz.ntmps31
        go_wp2_with fail
        go_ret
        exact ⟨rfl, rfl⟩
    · have HR : Hid ((if k = 3 then decide (m / 2 % 4 ≤ 2) else if k = 6 ∨ k = 8 ∨ k = 10 then m == 2 else (decide (1 ≤ k) && decide (k ≤ 14)) && m == 0) = ((decide (1 ≤ k) && decide (k ≤ 14)) && m == 0)) := by show _ = _; rw [if_neg h3, if_neg h6]
      rw [HR.out]
      have t6 : (k == 6) = false := by simp; omega
      have t8 : (k == 8) = false := by simp; omega
      have t10 : (k == 10) = false := by simp; omega
      clear HR h3 h6
      cases g1 : decide (1 ≤ k) with
      | false =>
        go_enter Tryz.func31, Tryz.ntmps31
        go_wp2_with fail
        go_ret
        exact ⟨rfl, rfl⟩
      | true =>
        cases g2 : decide (k ≤ 14) with
        | false =>
          go_enter Tryz.func31, Tryz.ntmps31
          go_wp2_with fail
          go_ret
          exact ⟨rfl, rfl⟩
        | true =>
          go_enter Tryz.func31, Tryz.ntmps31
          go_wp2_with fail
          go_ret
          exact ⟨rfl, rfl⟩
theorem first_eq (c : Int) (r : Bool) (w : World) (h0 : 0 ≤ c) (h1 : c ≤ 255) (h : firB c = r) :
    Calls Tryz.prog 31 #[.int .u8 c] w fun e w' => e = .returned (.bool r) ∧ w' = w := h ▸ first_any c w h0 h1
theorem rdR_range (r : List UInt8) (h : (rdR r).2.2 = 0) : 0 ≤ (rdR r).1 ∧ (rdR r).1 ≤ 268435455 ∧ 1 ≤ (rdR r).2.1 ∧ (rdR r).2.1 ≤ r.length := by
  obtain ⟨j, hj, hc, hjl, hn0, hn1, ht⟩ := rdR_ok r (rdR r).1 (rdR r).2.1 (by rw [← h])
  have hp : (128 : Int) ^ (j + 1) ≤ 268435456 := by
    have : j = 0 ∨ j = 1 ∨ j = 2 ∨ j = 3 := by omega
    rcases this with rfl | rfl | rfl | rfl <;> decide
  omega
theorem readLen_eq (l : List UInt8) (n u e : Int) (w : World) (hl : l.length ≤ 9223372036854775807) (h : rdR l = (n, u, e)) :
    Calls Tryz.prog 32 #[.string ⟨l.toArray⟩] w fun e' w' => e' = .returned (.tuple #[.int .i64 n, .int .i64 u, .int .i64 e]) ∧ w = w' := by
  have := numReadLen_any l w hl
  rw [h] at this
  exact this
set_option maxHeartbeats 1000000 in
theorem cut_any (s : List UInt8) (w : World) (hl : s.length ≤ 1000000000) :
    Calls Tryz.prog 33 #[.string ⟨s.toArray⟩] w fun e w' => e = .returned (.tuple #[.string ⟨(cutR s).1.toArray⟩, .int .i64 (cutR s).2.1, .int .i64 (cutR s).2.2]) ∧ w' = w := by
  rcases s with _ | ⟨b, r⟩
  · go_enter Tryz.func33, Tryz.ntmps33
    go_wp2_with fail
    go_ret3
    exact ⟨rfl, rfl⟩
  · have hb := b.toNat_lt
    have HC := Lib.hid (cut_cons b r)
    obtain ⟨S, hS⟩ : ∃ S, S = b :: r := ⟨_, rfl⟩
    rw [← hS] at hl HC ⊢
    have hS0 : (S == []) = false := by rw [hS]; rfl
    have hlen : S.length = r.length + 1 := by rw [hS]; rfl
    have h1l : 1 ≤ S.length := by omega
    have HA : ∀ h0 : 0 < (ByteArray.mk S.toArray).size, (ByteArray.mk S.toArray)[0]'h0 = b := by intro h0; subst hS; rfl
    have HT : Hid (S.tail = r) := by show _ = _; rw [hS]; rfl
    have HS := Lib.hid hS
    clear hS
    cases hf : firB b.toNat with
    | false =>
      have HF := Lib.hid hf
      have HR : Hid (cutR S = ([], 0, 4)) := by show _ = _; rw [HC.out, hf]; rfl
      rw [HR.out]
      clear hf HR hlen
      go_enter Tryz.func33, Tryz.ntmps33
      go_wp2_with fail
      refine (first_eq b.toNat false _ (by omega) (by omega) HF.out).mono ?_
      rintro e w1 ⟨rfl, rfl⟩
      go_wp2_with fail
      go_ret3
      exact ⟨rfl, rfl⟩
    | true =>
      have HF := Lib.hid hf
      have hrg := Lib.hid (rdR_range r)
      obtain ⟨n, hn⟩ : ∃ n, n = (rdR r).1 := ⟨_, rfl⟩
      obtain ⟨u, hu⟩ : ∃ u, u = (rdR r).2.1 := ⟨_, rfl⟩
      obtain ⟨er, he⟩ : ∃ er, er = (rdR r).2.2 := ⟨_, rfl⟩
      have HD : Hid (rdR r = (n, u, er)) := by show _ = _; rw [hn, hu, he]
      rw [hf, if_pos rfl, HD.out] at HC
      rw [HD.out] at hrg
      clear hn hu he hf
      by_cases he0 : er = 0
      · subst he0
        obtain ⟨hn0, hn1, hu0, hu1⟩ := hrg.out rfl
        clear hrg
        dsimp only at hn0 hn1 hu0 hu1
        have hu2 : u ≤ (S.length : Int) := by omega
        by_cases hlt : (r.length : Int) - u < n
        · have HR : Hid (cutR S = ([], 0, 2)) := by show _ = _; rw [HC.out, if_pos rfl, if_pos hlt]
          rw [HR.out]
          have hd : decide ((S.length : Int) - (1 + u) < n) = true := by simp; omega
          clear HC HR hlen hlt
          go_enter Tryz.func33, Tryz.ntmps33
          go_wp2_with fail
          refine (first_eq b.toNat true _ (by omega) (by omega) HF.out).mono ?_
          rintro e w1 ⟨rfl, rfl⟩
          go_wp2_with fail
          refine (readLen_eq S.tail n u 0 _ (by simp; omega) (by rw [HT.out, HD.out])).mono ?_
          rintro e w1 ⟨rfl, rfl⟩
          go_wp2_with fail
          go_ret3
          exact ⟨rfl, rfl⟩
        · have HR : Hid (cutR S = ((r.drop u.toNat).take n.toNat, 1 + u + n, 0)) := by show _ = _; rw [HC.out, if_pos rfl, if_neg hlt]
          rw [HR.out]
          have hd : decide ((S.length : Int) - (1 + u) < n) = false := by simp; omega
          obtain ⟨u', rfl⟩ : ∃ u' : Nat, u = u' := ⟨u.toNat, by omega⟩
          obtain ⟨n', rfl⟩ : ∃ n' : Nat, n = n' := ⟨n.toNat, by omega⟩
          have HX : Hid ((S.take (1 + u' + n')).drop (1 + u') = (r.drop ((u' : Int)).toNat).take ((n' : Int)).toNat) := by
            show _ = _
            rw [Int.toNat_natCast, Int.toNat_natCast, ← HT.out, ← List.drop_one, List.drop_drop, List.drop_take]
            congr 1
            omega
          have hle : 1 + u' + n' ≤ S.length := by omega
          clear HC HR hlen hlt
          go_enter Tryz.func33, Tryz.ntmps33
          go_wp2_with fail
          refine (first_eq b.toNat true _ (by omega) (by omega) HF.out).mono ?_
          rintro e w1 ⟨rfl, rfl⟩
          go_wp2_with fail
          refine (readLen_eq S.tail n' u' 0 _ (by simp; omega) (by rw [HT.out, HD.out])).mono ?_
          rintro e w1 ⟨rfl, rfl⟩
          go_wp2_with fail
          go_ret3
          exact ⟨by rw [← HX.out]; rfl, rfl⟩
      · have hb0 : (er != 0) = true := by simpa using he0
        have HR : Hid (cutR S = ([], 0, er)) := by show _ = _; rw [HC.out, if_neg he0]
        rw [HR.out]
        clear HC HR hrg hlen
        go_enter Tryz.func33, Tryz.ntmps33
        go_wp2_with fail
        refine (first_eq b.toNat true _ (by omega) (by omega) HF.out).mono ?_
        rintro e w1 ⟨rfl, rfl⟩
        go_wp2_with fail
        refine (readLen_eq S.tail n u er _ (by simp; omega) (by rw [HT.out, HD.out])).mono ?_
        rintro e w1 ⟨rfl, rfl⟩
        go_wp2_with fail
        go_ret3
        exact ⟨rfl, rfl⟩
end Go.Proofs.YtnaedcennichlaaGreatDoor

/-
  read: what the parser's methods do: a login, a will, a CONNACK, a publish.
-/
namespace Go.Proofs.YtnaedcennichlaaGreatDoor
open Go.RowKit
set_option maxRecDepth 100000
theorem bits_all : ∀ n : Fin 256, (bits .and .u8 (n.val : Int) 1 != 0) = bitB (n.val : Int) 1 ∧ (bits .and .u8 (n.val : Int) 2 != 0) = bitB (n.val : Int) 2 ∧ (bits .and .u8 (n.val : Int) 4 != 0) = bitB (n.val : Int) 4 ∧ (bits .and .u8 (n.val : Int) 8 != 0) = bitB (n.val : Int) 8
    ∧ (bits .and .u8 (n.val : Int) 32 != 0) = bitB (n.val : Int) 32 ∧ (bits .and .u8 (n.val : Int) 64 != 0) = bitB (n.val : Int) 64 ∧ (bits .and .u8 (n.val : Int) 128 != 0) = bitB (n.val : Int) 128 := by decide +kernel
theorem bits_of {b : Int} (h0 : 0 ≤ b) (h1 : b ≤ 255) : (bits .and .u8 b 1 != 0) = bitB b 1 ∧ (bits .and .u8 b 2 != 0) = bitB b 2 ∧ (bits .and .u8 b 4 != 0) = bitB b 4 ∧ (bits .and .u8 b 8 != 0) = bitB b 8
    ∧ (bits .and .u8 b 32 != 0) = bitB b 32 ∧ (bits .and .u8 b 64 != 0) = bitB b 64 ∧ (bits .and .u8 b 128 != 0) = bitB b 128 := by
  have := bits_all ⟨b.toNat, by omega⟩
  rw [show ((⟨b.toNat, by omega⟩ : Fin 256).val : Int) = b from by show (b.toNat : Int) = b; omega] at this
  exact this
/-- The cells of a parser. -/
abbrev PsC (s : Ps) (A : Option Addr) (n c : Nat) : Array Value := Rw s.l s.f (PkC s.p A n c)
theorem gt_bd {l : List UInt8} {g : List UInt8 × Int × Int} (h : l.length ≤ 1000000000) : (gtL l g).length ≤ 1000000000 := Nat.le_trans (gtL_le l g) h
section
variable {w0 w : World} {g : Nat} {l : List UInt8} {f : Bool} {p : Pk} {A : Option Addr} {n c : Nat} {t : TypeId} {L : List (Nat × Array Value × TypeId)}
theorem pLogin (h : Kp w0 ((g, Rw l f (PkC p A n c), t) :: L) w) (hne : ∀ x ∈ L, x.1 ≠ g) (hl : l.length ≤ 1000000000) (b : Int) (b0 : 0 ≤ b) (b1 : b ≤ 255) :
    Calls Tryz.prog 76 #[.pointer (some ⟨g, 0, none⟩), .int .u8 b] w fun e w' => e = .returned (.tuple #[]) ∧ Kp w0 ((g, PsC (psLogin b ⟨l, f, p⟩) A n c, t) :: L) w' := by
  obtain ⟨_, _, _, _, _, e64, e128⟩ := bits_of b0 b1
  have hK := h
  have a1r := h.row; have a1f := h.free; have a1c := h.cell; have a1l := h.lt; have a1z := h.froz
  clear h b0 b1
  cases hu : bitB b 128 with
  | true =>
    rw [hu] at e128
    cases hp : bitB b 64 with
    | true =>
      rw [hp] at e64
      have HR : Hid (psLogin b ⟨l, f, p⟩ = psPassT (psUserT ⟨l, f, (p.s_hasUser true).s_hasPass true⟩)) := by show _ = _; unfold psLogin psHas; rw [hu, hp]; rfl
      rw [HR.out]
      clear HR hu hp
      have hK1 := hK.set hne (Rw l f (PkC ((p.s_hasUser true).s_hasPass true) A n c))
      go_enter Tryz.func76, Tryz.ntmps76
      go_wp2_with fail
      refine (rText hK1 hne hl).mono ?_
      rintro e w1 ⟨rfl, hK2⟩
      clear a1r a1f a1c a1l a1z hK hK1
      have hK3 := hK2.set hne (Rw (gtL l (getR l)) (gtF f (getR l)) (PkC (((p.s_hasUser true).s_hasPass true).s_user (gtV (getR l))) A n c))
      have a1r := hK2.row; have a1f := hK2.free; have a1c := hK2.cell; have a1l := hK2.lt; have a1z := hK2.froz
      go_wp2_with fail
      refine (rData hK3 hne (gt_bd hl)).mono ?_
      rintro e w2 ⟨rfl, hK4⟩
      clear a1r a1f a1c a1l a1z hK2 hK3
      have hK5 := hK4.set hne (PsC (psPassT (psUserT ⟨l, f, (p.s_hasUser true).s_hasPass true⟩)) A n c)
      have a1r := hK4.row; have a1f := hK4.free; have a1c := hK4.cell; have a1l := hK4.lt; have a1z := hK4.froz
      go_wp2_with fail
      go_end0
      exact ⟨rfl, hK5⟩
    | false =>
      rw [hp] at e64
      have HR : Hid (psLogin b ⟨l, f, p⟩ = psUserT ⟨l, f, (p.s_hasUser true).s_hasPass false⟩) := by show _ = _; unfold psLogin psHas; rw [hu, hp]; rfl
      rw [HR.out]
      clear HR hu hp
      have hK1 := hK.set hne (Rw l f (PkC ((p.s_hasUser true).s_hasPass false) A n c))
      go_enter Tryz.func76, Tryz.ntmps76
      go_wp2_with fail
      refine (rText hK1 hne hl).mono ?_
      rintro e w1 ⟨rfl, hK2⟩
      clear a1r a1f a1c a1l a1z hK hK1
      have hK3 := hK2.set hne (PsC (psUserT ⟨l, f, (p.s_hasUser true).s_hasPass false⟩) A n c)
      have a1r := hK2.row; have a1f := hK2.free; have a1c := hK2.cell; have a1l := hK2.lt; have a1z := hK2.froz
      go_wp2_with fail
      go_end0
      exact ⟨rfl, hK3⟩
  | false =>
    rw [hu] at e128
    cases hp : bitB b 64 with
    | true =>
      rw [hp] at e64
      have HR : Hid (psLogin b ⟨l, f, p⟩ = psPassT ⟨l, f, (p.s_hasUser false).s_hasPass true⟩) := by show _ = _; unfold psLogin psHas; rw [hu, hp]; rfl
      rw [HR.out]
      clear HR hu hp
      have hK1 := hK.set hne (Rw l f (PkC ((p.s_hasUser false).s_hasPass true) A n c))
      go_enter Tryz.func76, Tryz.ntmps76
      go_wp2_with fail
      refine (rData hK1 hne hl).mono ?_
      rintro e w1 ⟨rfl, hK2⟩
      clear a1r a1f a1c a1l a1z hK hK1
      have hK3 := hK2.set hne (PsC (psPassT ⟨l, f, (p.s_hasUser false).s_hasPass true⟩) A n c)
      have a1r := hK2.row; have a1f := hK2.free; have a1c := hK2.cell; have a1l := hK2.lt; have a1z := hK2.froz
      go_wp2_with fail
      go_end0
      exact ⟨rfl, hK3⟩
    | false =>
      rw [hp] at e64
      have HR : Hid (psLogin b ⟨l, f, p⟩ = ⟨l, f, (p.s_hasUser false).s_hasPass false⟩) := by show _ = _; unfold psLogin psHas; rw [hu, hp]; rfl
      rw [HR.out]
      clear HR hu hp
      have hK1 := hK.set hne (Rw l f (PkC ((p.s_hasUser false).s_hasPass false) A n c))
      go_enter Tryz.func76, Tryz.ntmps76
      go_wp2_with fail
      go_end0
      exact ⟨rfl, hK1⟩
theorem pWill (h : Kp w0 ((g, Rw l f (PkC p A n c), t) :: L) w) (hne : ∀ x ∈ L, x.1 ≠ g) (hl : l.length ≤ 1000000000) (b : Int) (b0 : 0 ≤ b) (b1 : b ≤ 255) :
    Calls Tryz.prog 75 #[.pointer (some ⟨g, 0, none⟩), .int .u8 b] w fun e w' => e = .returned (.tuple #[]) ∧ Kp w0 ((g, PsC (psWill b ⟨l, f, p⟩) A n c, t) :: L) w' := by
  obtain ⟨_, _, e4, _, e32, _, _⟩ := bits_of b0 b1
  have hK := h
  have a1r := h.row; have a1f := h.free; have a1c := h.cell; have a1l := h.lt; have a1z := h.froz
  clear h
  cases hu : bitB b 4 with
  | true =>
    rw [hu] at e4
    have HR : Hid (psWill b ⟨l, f, p⟩ = psWillL (psWillT ⟨l, f, ((p.s_hasWill true).s_wq (b / 8 % 4)).s_wr (bitB b 32)⟩)) := by show _ = _; unfold psWill; rw [hu]; rfl
    rw [HR.out]
    clear HR hu
    have hK1 := hK.set hne (Rw l f (PkC (((p.s_hasWill true).s_wq (b / 8 % 4)).s_wr (bitB b 32)) A n c))
    go_enter Tryz.func75, Tryz.ntmps75
    go_wp2_with fail
    refine (qosIn_any b 8 _ b0 b1 (Or.inr rfl)).mono ?_
    rintro e w1 ⟨rfl, rfl⟩
    go_wp2_with fail
    refine (rText hK1 hne hl).mono ?_
    rintro e w1 ⟨rfl, hK2⟩
    clear a1r a1f a1c a1l a1z hK hK1
    have hK3 := hK2.set hne (PsC (psWillT ⟨l, f, ((p.s_hasWill true).s_wq (b / 8 % 4)).s_wr (bitB b 32)⟩) A n c)
    have a1r := hK2.row; have a1f := hK2.free; have a1c := hK2.cell; have a1l := hK2.lt; have a1z := hK2.froz
    go_wp2_with fail
    refine (rData hK3 hne (gt_bd hl)).mono ?_
    rintro e w2 ⟨rfl, hK4⟩
    clear a1r a1f a1c a1l a1z hK2 hK3
    have hK5 := hK4.set hne (PsC (psWillL (psWillT ⟨l, f, ((p.s_hasWill true).s_wq (b / 8 % 4)).s_wr (bitB b 32)⟩)) A n c)
    have a1r := hK4.row; have a1f := hK4.free; have a1c := hK4.cell; have a1l := hK4.lt; have a1z := hK4.froz
    go_wp2_with fail
    go_end0
    exact ⟨rfl, hK5⟩
  | false =>
    rw [hu] at e4
    have HR : Hid (psWill b ⟨l, f, p⟩ = ⟨l, f, ((p.s_hasWill false).s_wq (b / 8 % 4)).s_wr (bitB b 32)⟩) := by show _ = _; unfold psWill; rw [hu]; rfl
    rw [HR.out]
    clear HR hu
    have hK1 := hK.set hne (Rw l f (PkC (((p.s_hasWill false).s_wq (b / 8 % 4)).s_wr (bitB b 32)) A n c))
    go_enter Tryz.func75, Tryz.ntmps75
    go_wp2_with fail
    refine (qosIn_any b 8 _ b0 b1 (Or.inr rfl)).mono ?_
    rintro e w1 ⟨rfl, rfl⟩
    go_wp2_with fail
    go_end0
    exact ⟨rfl, hK1⟩
theorem pAck (h : Kp w0 ((g, Rw l f (PkC p A n c), t) :: L) w) (hne : ∀ x ∈ L, x.1 ≠ g) (hl : l.length ≤ 1000000000) :
    Calls Tryz.prog 66 #[.pointer (some ⟨g, 0, none⟩)] w fun e w' => e = .returned (.tuple #[]) ∧ Kp w0 ((g, PsC (psAck ⟨l, f, p⟩) A n c, t) :: L) w' := by
  have hb := by_bd l
  have hd : (l.tail).length ≤ 1000000000 := by rw [List.length_tail]; omega
  by_cases h1 : 1 < byV l
  · have HR : Hid (psAck ⟨l, f, p⟩ = psAck2 ⟨[], true, p.s_present (byV l != 0)⟩) := by show _ = _; unfold psAck psAck1; rw [if_pos h1]
    rw [HR.out]
    have hd1 : decide (1 < byV l) = true := by simpa using h1
    clear HR
    go_enter Tryz.func66, Tryz.ntmps66
    go_wp2_with fail
    refine (rByte h hne hl).mono ?_
    rintro e w1 ⟨rfl, hK1⟩
    clear h
    go_wp2_with fail
    refine (rFail hK1 hne).mono ?_
    rintro e w1 ⟨rfl, hK2⟩
    clear hK1
    have hK3 := hK2.set hne (Rw [] true (PkC (p.s_present (byV l != 0)) A n c))
    have a1r := hK2.row; have a1f := hK2.free; have a1c := hK2.cell; have a1l := hK2.lt; have a1z := hK2.froz
    go_wp2_with fail
    refine (rByte hK3 hne (by simp)).mono ?_
    rintro e w1 ⟨rfl, hK4⟩
    clear a1r a1f a1c a1l a1z hK2 hK3
    have hK5 := hK4.set hne (PsC (psAck2 ⟨[], true, p.s_present (byV l != 0)⟩) A n c)
    have a1r := hK4.row; have a1f := hK4.free; have a1c := hK4.cell; have a1l := hK4.lt; have a1z := hK4.froz
    go_wp2_with fail
    go_end0
    exact ⟨rfl, hK5⟩
  · have HR : Hid (psAck ⟨l, f, p⟩ = psAck2 ⟨l.tail, byF l f, p.s_present (byV l != 0)⟩) := by show _ = _; unfold psAck psAck1; rw [if_neg h1]
    rw [HR.out]
    have hd1 : decide (1 < byV l) = false := by simpa using h1
    clear HR
    go_enter Tryz.func66, Tryz.ntmps66
    go_wp2_with fail
    refine (rByte h hne hl).mono ?_
    rintro e w1 ⟨rfl, hK2⟩
    clear h
    have hK3 := hK2.set hne (Rw (l.tail) (byF l f) (PkC (p.s_present (byV l != 0)) A n c))
    have a1r := hK2.row; have a1f := hK2.free; have a1c := hK2.cell; have a1l := hK2.lt; have a1z := hK2.froz
    go_wp2_with fail
    refine (rByte hK3 hne hd).mono ?_
    rintro e w1 ⟨rfl, hK4⟩
    clear a1r a1f a1c a1l a1z hK2 hK3
    have hK5 := hK4.set hne (PsC (psAck2 ⟨l.tail, byF l f, p.s_present (byV l != 0)⟩) A n c)
    have a1r := hK4.row; have a1f := hK4.free; have a1c := hK4.cell; have a1l := hK4.lt; have a1z := hK4.froz
    go_wp2_with fail
    go_end0
    exact ⟨rfl, hK5⟩
theorem pPub (h : Kp w0 ((g, Rw l f (PkC p A n c), t) :: L) w) (hne : ∀ x ∈ L, x.1 ≠ g) (hl : l.length ≤ 1000000000) (b : Int) (b0 : 0 ≤ b) (b1 : b ≤ 255) :
    Calls Tryz.prog 67 #[.pointer (some ⟨g, 0, none⟩), .int .u8 b] w fun e w' => e = .returned (.tuple #[]) ∧ Kp w0 ((g, PsC (psPub b ⟨l, f, p⟩) A n c, t) :: L) w' := by
  obtain ⟨e1, _, _, e8, _, _, _⟩ := bits_of b0 b1
  have hq : 0 ≤ b / 2 % 4 ∧ b / 2 % 4 ≤ 3 := by omega
  have hK := h
  have a1r := h.row; have a1f := h.free; have a1c := h.cell; have a1l := h.lt; have a1z := h.froz
  clear h
  have hg := gt_bd (g := getR l) hl
  have hqq : ((((p.s_dup (bitB b 8)).s_qos (b / 2 % 4)).s_ret (bitB b 1)).s_topic (gtV (getR l))).qos = b / 2 % 4 := rfl
  by_cases h0 : 0 < b / 2 % 4
  · have HR : Hid (psPub b ⟨l, f, p⟩ = psLoad (psId (psPub1 b ⟨l, f, p⟩))) := by show _ = _; unfold psPub; rw [if_pos h0]
    rw [HR.out]
    have hd1 : decide (0 < b / 2 % 4) = true := by simpa using h0
    clear HR
    have hK1 := hK.set hne (Rw l f (PkC (((p.s_dup (bitB b 8)).s_qos (b / 2 % 4)).s_ret (bitB b 1)) A n c))
    go_enter Tryz.func67, Tryz.ntmps67
    go_wp2_with fail
    refine (qosIn_any b 2 _ b0 b1 (Or.inl rfl)).mono ?_
    rintro e w1 ⟨rfl, rfl⟩
    go_wp2_with fail
    refine (rText hK1 hne hl).mono ?_
    rintro e w1 ⟨rfl, hK2⟩
    clear a1r a1f a1c a1l a1z hK hK1
    have hK3 := hK2.set hne (PsC (psPub1 b ⟨l, f, p⟩) A n c)
    have a1r := hK2.row; have a1f := hK2.free; have a1c := hK2.cell; have a1l := hK2.lt; have a1z := hK2.froz
    go_wp2_with fail
    refine (rWord hK3 hne hg).mono ?_
    rintro e w2 ⟨rfl, hK4⟩
    clear a1r a1f a1c a1l a1z hK2 hK3
    have hK5 := hK4.set hne (PsC (psId (psPub1 b ⟨l, f, p⟩)) A n c)
    have a1r := hK4.row; have a1f := hK4.free; have a1c := hK4.cell; have a1l := hK4.lt; have a1z := hK4.froz
    go_wp2_with fail
    refine (rAll hK5 hne (Nat.le_trans (woL_le _) hg)).mono ?_
    rintro e w2 ⟨rfl, hK6⟩
    clear a1r a1f a1c a1l a1z hK4 hK5
    have hK7 := hK6.set hne (PsC (psLoad (psId (psPub1 b ⟨l, f, p⟩))) A n c)
    have a1r := hK6.row; have a1f := hK6.free; have a1c := hK6.cell; have a1l := hK6.lt; have a1z := hK6.froz
    go_wp2_with fail
    go_end0
    exact ⟨rfl, hK7⟩
  · have HR : Hid (psPub b ⟨l, f, p⟩ = psLoad (psPub1 b ⟨l, f, p⟩)) := by show _ = _; unfold psPub; rw [if_neg h0]
    rw [HR.out]
    have hd1 : decide (0 < b / 2 % 4) = false := by simpa using h0
    clear HR
    have hK1 := hK.set hne (Rw l f (PkC (((p.s_dup (bitB b 8)).s_qos (b / 2 % 4)).s_ret (bitB b 1)) A n c))
    go_enter Tryz.func67, Tryz.ntmps67
    go_wp2_with fail
    refine (qosIn_any b 2 _ b0 b1 (Or.inl rfl)).mono ?_
    rintro e w1 ⟨rfl, rfl⟩
    go_wp2_with fail
    refine (rText hK1 hne hl).mono ?_
    rintro e w1 ⟨rfl, hK2⟩
    clear a1r a1f a1c a1l a1z hK hK1
    have hK3 := hK2.set hne (PsC (psPub1 b ⟨l, f, p⟩) A n c)
    have a1r := hK2.row; have a1f := hK2.free; have a1c := hK2.cell; have a1l := hK2.lt; have a1z := hK2.froz
    go_wp2_with fail
    refine (rAll hK3 hne hg).mono ?_
    rintro e w2 ⟨rfl, hK6⟩
    clear a1r a1f a1c a1l a1z hK2 hK3
    have hK7 := hK6.set hne (PsC (psLoad (psPub1 b ⟨l, f, p⟩)) A n c)
    have a1r := hK6.row; have a1f := hK6.free; have a1c := hK6.cell; have a1l := hK6.lt; have a1z := hK6.froz
    go_wp2_with fail
    go_end0
    exact ⟨rfl, hK7⟩
end
end Go.Proofs.YtnaedcennichlaaGreatDoor

/-
  read: what the parser does with a CONNECT, with Subs, with any rest.
-/
namespace Go.Proofs.YtnaedcennichlaaGreatDoor
open Go.RowKit
set_option maxRecDepth 100000
theorem name_le {s : Ps} (h : s.l.length ≤ 1000000000) : (psName s).l.length ≤ 1000000000 := by
  unfold psName
  split
  · exact gt_bd h
  · simp
theorem tail_le {l : List UInt8} (h : l.length ≤ 1000000000) : l.tail.length ≤ 1000000000 := by rw [List.length_tail]; omega
theorem wo_le {l : List UInt8} (h : l.length ≤ 1000000000) : (woL l).length ≤ 1000000000 := Nat.le_trans (woL_le l) h
theorem flag_le {s : Ps} (h : s.l.length ≤ 1000000000) : (psFlag s).l.length ≤ 1000000000 := by
  unfold psFlag
  split
  · simp
  · exact tail_le h
theorem will_le {b : Int} {s : Ps} (h : s.l.length ≤ 1000000000) : (psWill b s).l.length ≤ 1000000000 := by
  unfold psWill
  split
  · exact gt_bd (gt_bd h)
  · exact h
section
variable {w0 w : World} {g : Nat} {l : List UInt8} {f : Bool} {p : Pk} {A : Option Addr} {n c : Nat} {t : TypeId} {L : List (Nat × Array Value × TypeId)}
set_option maxHeartbeats 2000000 in
theorem pCon (h : Kp w0 ((g, Rw l f (PkC p A n c), t) :: L) w) (hne : ∀ x ∈ L, x.1 ≠ g) (hl : l.length ≤ 1000000000) :
    Calls Tryz.prog 65 #[.pointer (some ⟨g, 0, none⟩)] w fun e w' => e = .returned (.tuple #[]) ∧ Kp w0 ((g, PsC (psCon ⟨l, f, p⟩) A n c, t) :: L) w' := by
  obtain ⟨s1, hs1⟩ : ∃ s1, s1 = psName ⟨l, f, p⟩ := ⟨_, rfl⟩
  have hl1 : s1.l.length ≤ 1000000000 := by rw [hs1]; exact name_le hl
  have HR : Hid (psCon ⟨l, f, p⟩ = psLogin (byV (psLevel s1).l) (psWill (byV (psLevel s1).l) (psClient (psKeep (psFlag (psLevel s1)))))) := by show _ = _; rw [hs1]; rfl
  rw [HR.out]
  clear HR
  have hl2 : (psLevel s1).l.length ≤ 1000000000 := tail_le hl1
  have hl3 : (psFlag (psLevel s1)).l.length ≤ 1000000000 := flag_le hl2
  have hl4 : (psKeep (psFlag (psLevel s1))).l.length ≤ 1000000000 := wo_le hl3
  have hl5 : (psClient (psKeep (psFlag (psLevel s1)))).l.length ≤ 1000000000 := gt_bd hl4
  obtain ⟨b, hb⟩ : ∃ b, b = byV (psLevel s1).l := ⟨_, rfl⟩
  obtain ⟨s3, hs3⟩ : ∃ s3, s3 = psFlag (psLevel s1) := ⟨_, rfl⟩
  have hbd := by_bd (psLevel s1).l
  have HFL : Hid (psFlag (psLevel s1) = if bitB (byV (psLevel s1).l) 1 then ⟨[], true, (psLevel s1).p.s_clean (bitB (byV (psLevel s1).l) 2)⟩ else ⟨(psLevel s1).l.tail, byF (psLevel s1).l (psLevel s1).f, (psLevel s1).p.s_clean (bitB (byV (psLevel s1).l) 2)⟩) := rfl
  rw [← hb] at hbd HFL ⊢
  rw [← hs3] at HFL hl3 hl4 hl5 ⊢
  obtain ⟨e1, e2, _, _, _, _, _⟩ := bits_of hbd.1 hbd.2
  have HB := Lib.hid hb
  have HS1 := Lib.hid hs1
  clear hb hs1 hs3
  have HNAME : Hid (psName ⟨l, f, p⟩ = if gtV (getR l) = nameL then ⟨gtL l (getR l), gtF f (getR l), p⟩ else ⟨[], true, p⟩) := rfl
  by_cases hn : gtV (getR l) = nameL
  · have e3 : (gtV (getR l) == [77, 81, 84, 84]) = true := by rw [hn]; rfl
    have HS2 : Hid (s1 = ⟨gtL l (getR l), gtF f (getR l), p⟩) := by show _ = _; rw [HS1.out, HNAME.out, if_pos hn]
    clear hn HNAME
    cases hbit : bitB b 1 with
    | true =>
      rw [hbit] at e1
      have HF : Hid (s3 = ⟨[], true, (psLevel s1).p.s_clean (bitB b 2)⟩) := by show _ = _; rw [HFL.out, hbit]; rfl
      clear hbit HFL
      go_enter Tryz.func65, Tryz.ntmps65
      go_wp2_with fail
      refine (rText h hne hl).mono ?_
      rintro e w1 ⟨rfl, hK1⟩
      have hK : Kp w0 ((g, PsC s1 A n c, t) :: L) w1 := by rw [HS2.out]; exact hK1
      clear hK1 h
      go_wp2_with fail
      refine (rByte hK hne hl1).mono ?_
      rintro e w2 ⟨rfl, hK2⟩
      clear hK
      have hK3 := hK2.set hne (PsC (psLevel s1) A n c)
      have a1r := hK2.row; have a1f := hK2.free; have a1c := hK2.cell; have a1l := hK2.lt; have a1z := hK2.froz
      go_wp2_with fail
      refine (rByte hK3 hne hl2).mono ?_
      rintro e w3 ⟨rfl, hK4⟩
      clear a1r a1f a1c a1l a1z hK2 hK3
      rw [← HB.out]
      go_wp2_with fail
      refine (rFail hK4 hne).mono ?_
      rintro e w4 ⟨rfl, hK5⟩
      clear hK4
      have hK4 := hK5
      clear hK5
      have hK5 := hK4.set hne (Rw [] true (PkC ((psLevel s1).p.s_clean (bitB b 2)) A n c))
      have a1r := hK4.row; have a1f := hK4.free; have a1c := hK4.cell; have a1l := hK4.lt; have a1z := hK4.froz
      go_wp2_with fail
      have hK6 : Kp w0 ((g, PsC s3 A n c, t) :: L) (w4.setRow g (Rw [] true (PkC ((psLevel s1).p.s_clean (bitB b 2)) A n c))) := by rw [HF.out]; exact hK5
      clear hK5
      clear a1r a1f a1c a1l a1z hK4
      refine (rWord hK6 hne hl3).mono ?_
      rintro e w5 ⟨rfl, hK7⟩
      have hK8 := hK7.set hne (PsC (psKeep s3) A n c)
      have a1r := hK7.row; have a1f := hK7.free; have a1c := hK7.cell; have a1l := hK7.lt; have a1z := hK7.froz
      go_wp2_with fail
      refine (rText hK8 hne hl4).mono ?_
      rintro e w6 ⟨rfl, hK9⟩
      clear a1r a1f a1c a1l a1z hK6 hK7 hK8
      have hK8 := hK9.set hne (PsC (psClient (psKeep s3)) A n c)
      have a1r := hK9.row; have a1f := hK9.free; have a1c := hK9.cell; have a1l := hK9.lt; have a1z := hK9.froz
      go_wp2_with fail
      refine (pWill hK8 hne hl5 b hbd.1 hbd.2).mono ?_
      rintro e w7 ⟨rfl, hK10⟩
      clear a1r a1f a1c a1l a1z hK8 hK9
      go_wp2_with fail
      refine (pLogin hK10 hne (will_le hl5) b hbd.1 hbd.2).mono ?_
      rintro e w8 ⟨rfl, hK11⟩
      go_wp2_with fail
      go_end0
      exact ⟨rfl, hK11⟩
    | false =>
      rw [hbit] at e1
      have HF : Hid (s3 = ⟨(psLevel s1).l.tail, byF (psLevel s1).l (psLevel s1).f, (psLevel s1).p.s_clean (bitB b 2)⟩) := by show _ = _; rw [HFL.out, hbit]; rfl
      clear hbit HFL
      go_enter Tryz.func65, Tryz.ntmps65
      go_wp2_with fail
      refine (rText h hne hl).mono ?_
      rintro e w1 ⟨rfl, hK1⟩
      have hK : Kp w0 ((g, PsC s1 A n c, t) :: L) w1 := by rw [HS2.out]; exact hK1
      clear hK1 h
      go_wp2_with fail
      refine (rByte hK hne hl1).mono ?_
      rintro e w2 ⟨rfl, hK2⟩
      clear hK
      have hK3 := hK2.set hne (PsC (psLevel s1) A n c)
      have a1r := hK2.row; have a1f := hK2.free; have a1c := hK2.cell; have a1l := hK2.lt; have a1z := hK2.froz
      go_wp2_with fail
      refine (rByte hK3 hne hl2).mono ?_
      rintro e w3 ⟨rfl, hK4⟩
      clear a1r a1f a1c a1l a1z hK2 hK3
      rw [← HB.out]
      have hK5 := hK4.set hne (Rw (psLevel s1).l.tail (byF (psLevel s1).l (psLevel s1).f) (PkC ((psLevel s1).p.s_clean (bitB b 2)) A n c))
      have a1r := hK4.row; have a1f := hK4.free; have a1c := hK4.cell; have a1l := hK4.lt; have a1z := hK4.froz
      go_wp2_with fail
      have hK6 : Kp w0 ((g, PsC s3 A n c, t) :: L) (w3.setRow g (Rw (psLevel s1).l.tail (byF (psLevel s1).l (psLevel s1).f) (PkC ((psLevel s1).p.s_clean (bitB b 2)) A n c))) := by rw [HF.out]; exact hK5
      clear hK5
      clear a1r a1f a1c a1l a1z hK4
      refine (rWord hK6 hne hl3).mono ?_
      rintro e w5 ⟨rfl, hK7⟩
      have hK8 := hK7.set hne (PsC (psKeep s3) A n c)
      have a1r := hK7.row; have a1f := hK7.free; have a1c := hK7.cell; have a1l := hK7.lt; have a1z := hK7.froz
      go_wp2_with fail
      refine (rText hK8 hne hl4).mono ?_
      rintro e w6 ⟨rfl, hK9⟩
      clear a1r a1f a1c a1l a1z hK6 hK7 hK8
      have hK8 := hK9.set hne (PsC (psClient (psKeep s3)) A n c)
      have a1r := hK9.row; have a1f := hK9.free; have a1c := hK9.cell; have a1l := hK9.lt; have a1z := hK9.froz
      go_wp2_with fail
      refine (pWill hK8 hne hl5 b hbd.1 hbd.2).mono ?_
      rintro e w7 ⟨rfl, hK10⟩
      clear a1r a1f a1c a1l a1z hK8 hK9
      go_wp2_with fail
      refine (pLogin hK10 hne (will_le hl5) b hbd.1 hbd.2).mono ?_
      rintro e w8 ⟨rfl, hK11⟩
      go_wp2_with fail
      go_end0
      exact ⟨rfl, hK11⟩
  · have e3 : (gtV (getR l) == [77, 81, 84, 84]) = false := by rw [beq_eq_false_iff_ne]; exact hn
    have HS2 : Hid (s1 = ⟨[], true, p⟩) := by show _ = _; rw [HS1.out, HNAME.out, if_neg hn]
    clear hn HNAME
    cases hbit : bitB b 1 with
    | true =>
      rw [hbit] at e1
      have HF : Hid (s3 = ⟨[], true, (psLevel s1).p.s_clean (bitB b 2)⟩) := by show _ = _; rw [HFL.out, hbit]; rfl
      clear hbit HFL
      go_enter Tryz.func65, Tryz.ntmps65
      go_wp2_with fail
      refine (rText h hne hl).mono ?_
      rintro e w1 ⟨rfl, hK1⟩
      clear h
      go_wp2_with fail
      refine (rFail hK1 hne).mono ?_
      rintro e w2 ⟨rfl, hK2⟩
      have hK : Kp w0 ((g, PsC s1 A n c, t) :: L) w2 := by rw [HS2.out]; exact hK2
      clear hK1 hK2
      go_wp2_with fail
      refine (rByte hK hne hl1).mono ?_
      rintro e w2 ⟨rfl, hK2⟩
      clear hK
      have hK3 := hK2.set hne (PsC (psLevel s1) A n c)
      have a1r := hK2.row; have a1f := hK2.free; have a1c := hK2.cell; have a1l := hK2.lt; have a1z := hK2.froz
      go_wp2_with fail
      refine (rByte hK3 hne hl2).mono ?_
      rintro e w3 ⟨rfl, hK4⟩
      clear a1r a1f a1c a1l a1z hK2 hK3
      rw [← HB.out]
      go_wp2_with fail
      refine (rFail hK4 hne).mono ?_
      rintro e w4 ⟨rfl, hK5⟩
      clear hK4
      have hK4 := hK5
      clear hK5
      have hK5 := hK4.set hne (Rw [] true (PkC ((psLevel s1).p.s_clean (bitB b 2)) A n c))
      have a1r := hK4.row; have a1f := hK4.free; have a1c := hK4.cell; have a1l := hK4.lt; have a1z := hK4.froz
      go_wp2_with fail
      have hK6 : Kp w0 ((g, PsC s3 A n c, t) :: L) (w4.setRow g (Rw [] true (PkC ((psLevel s1).p.s_clean (bitB b 2)) A n c))) := by rw [HF.out]; exact hK5
      clear hK5
      clear a1r a1f a1c a1l a1z hK4
      refine (rWord hK6 hne hl3).mono ?_
      rintro e w5 ⟨rfl, hK7⟩
      have hK8 := hK7.set hne (PsC (psKeep s3) A n c)
      have a1r := hK7.row; have a1f := hK7.free; have a1c := hK7.cell; have a1l := hK7.lt; have a1z := hK7.froz
      go_wp2_with fail
      refine (rText hK8 hne hl4).mono ?_
      rintro e w6 ⟨rfl, hK9⟩
      clear a1r a1f a1c a1l a1z hK6 hK7 hK8
      have hK8 := hK9.set hne (PsC (psClient (psKeep s3)) A n c)
      have a1r := hK9.row; have a1f := hK9.free; have a1c := hK9.cell; have a1l := hK9.lt; have a1z := hK9.froz
      go_wp2_with fail
      refine (pWill hK8 hne hl5 b hbd.1 hbd.2).mono ?_
      rintro e w7 ⟨rfl, hK10⟩
      clear a1r a1f a1c a1l a1z hK8 hK9
      go_wp2_with fail
      refine (pLogin hK10 hne (will_le hl5) b hbd.1 hbd.2).mono ?_
      rintro e w8 ⟨rfl, hK11⟩
      go_wp2_with fail
      go_end0
      exact ⟨rfl, hK11⟩
    | false =>
      rw [hbit] at e1
      have HF : Hid (s3 = ⟨(psLevel s1).l.tail, byF (psLevel s1).l (psLevel s1).f, (psLevel s1).p.s_clean (bitB b 2)⟩) := by show _ = _; rw [HFL.out, hbit]; rfl
      clear hbit HFL
      go_enter Tryz.func65, Tryz.ntmps65
      go_wp2_with fail
      refine (rText h hne hl).mono ?_
      rintro e w1 ⟨rfl, hK1⟩
      clear h
      go_wp2_with fail
      refine (rFail hK1 hne).mono ?_
      rintro e w2 ⟨rfl, hK2⟩
      have hK : Kp w0 ((g, PsC s1 A n c, t) :: L) w2 := by rw [HS2.out]; exact hK2
      clear hK1 hK2
      go_wp2_with fail
      refine (rByte hK hne hl1).mono ?_
      rintro e w2 ⟨rfl, hK2⟩
      clear hK
      have hK3 := hK2.set hne (PsC (psLevel s1) A n c)
      have a1r := hK2.row; have a1f := hK2.free; have a1c := hK2.cell; have a1l := hK2.lt; have a1z := hK2.froz
      go_wp2_with fail
      refine (rByte hK3 hne hl2).mono ?_
      rintro e w3 ⟨rfl, hK4⟩
      clear a1r a1f a1c a1l a1z hK2 hK3
      rw [← HB.out]
      have hK5 := hK4.set hne (Rw (psLevel s1).l.tail (byF (psLevel s1).l (psLevel s1).f) (PkC ((psLevel s1).p.s_clean (bitB b 2)) A n c))
      have a1r := hK4.row; have a1f := hK4.free; have a1c := hK4.cell; have a1l := hK4.lt; have a1z := hK4.froz
      go_wp2_with fail
      have hK6 : Kp w0 ((g, PsC s3 A n c, t) :: L) (w3.setRow g (Rw (psLevel s1).l.tail (byF (psLevel s1).l (psLevel s1).f) (PkC ((psLevel s1).p.s_clean (bitB b 2)) A n c))) := by rw [HF.out]; exact hK5
      clear hK5
      clear a1r a1f a1c a1l a1z hK4
      refine (rWord hK6 hne hl3).mono ?_
      rintro e w5 ⟨rfl, hK7⟩
      have hK8 := hK7.set hne (PsC (psKeep s3) A n c)
      have a1r := hK7.row; have a1f := hK7.free; have a1c := hK7.cell; have a1l := hK7.lt; have a1z := hK7.froz
      go_wp2_with fail
      refine (rText hK8 hne hl4).mono ?_
      rintro e w6 ⟨rfl, hK9⟩
      clear a1r a1f a1c a1l a1z hK6 hK7 hK8
      have hK8 := hK9.set hne (PsC (psClient (psKeep s3)) A n c)
      have a1r := hK9.row; have a1f := hK9.free; have a1c := hK9.cell; have a1l := hK9.lt; have a1z := hK9.froz
      go_wp2_with fail
      refine (pWill hK8 hne hl5 b hbd.1 hbd.2).mono ?_
      rintro e w7 ⟨rfl, hK10⟩
      clear a1r a1f a1c a1l a1z hK8 hK9
      go_wp2_with fail
      refine (pLogin hK10 hne (will_le hl5) b hbd.1 hbd.2).mono ?_
      rintro e w8 ⟨rfl, hK11⟩
      go_wp2_with fail
      go_end0
      exact ⟨rfl, hK11⟩
end
end Go.Proofs.YtnaedcennichlaaGreatDoor

/-
  read: what the parser does with Subs.
-/
namespace Go.Proofs.YtnaedcennichlaaGreatDoor
open Go.RowKit
set_option maxRecDepth 100000
/-- How much is left of a reader's bytes. -/
def leftN (w : World) (g : Nat) : Nat := match ((rowAt w g)[0]? : Option Value) with
  | some (.string s) => s.size
  | _ => 0
theorem leftN_of {w : World} {g : Nat} {l : List UInt8} {f : Bool} {R : Array Value} (h : rowAt w g = Rw l f R) : leftN w g = l.length := by
  unfold leftN
  rw [h, Rw_0]
  show l.toArray.size = l.length
  simp
section
variable {w0 w w' : World} {K K' M : List (Nat × Array Value × TypeId)} {v : Value} {m : Nat} {xs : List Value}
theorem Kp.grown (h : Kp w0 K w) (hown : w.ownsRow w0.heap.size 42 2 v m xs) (hgr : w.grownBy w' v.ownBlock) (hT : ∀ x ∈ K, x.2.2 ≠ 42) : Kp w0 K w' := by
  refine ⟨fun x hx => ?_, h.below.grown hgr h.below.size (fun k hk => (hown.lt k hk).1)⟩
  obtain ⟨h1, h2⟩ := h.rows x hx
  refine ⟨h1, (hgr.block x.1 (Array.getElem?_eq_some_iff.1 h2).1 (fun e => ?_)).trans h2⟩
  rcases hown.2 with ⟨rfl, _⟩ | ⟨g, cap, cur, rfl, _, hh, _⟩
  · cases e
  · have e2 : x.1 = g := by simpa [Value.ownBlock] using e
    rw [← e2, h2] at hh
    injection hh with hh
    injection hh with _ h4 _
    exact hT x hx h4
theorem Kp.sub (h : Kp w0 K w) (hs : ∀ x ∈ K', x ∈ K) : Kp w0 K' w := ⟨fun x hx => h.rows x (hs x hx), h.below⟩
theorem Kp.add (h : Kp w0 K w) (hM : ∀ x ∈ M, w0.heap.size ≤ x.1 ∧ w.heap[x.1]? = some (.cells x.2.1 x.2.2 (0, 0))) : Kp w0 (M ++ K) w :=
  ⟨fun x hx => by
    rcases List.mem_append.1 hx with hx | hx
    · exact hM x hx
    · exact h.rows x hx, h.below⟩
/-- The blocks M hold the call's own row of Subs. -/
def OwnM (w0 : World) (M : List (Nat × Array Value × TypeId)) (v : Value) (n : Nat) (xs : List Value) : Prop :=
  (∀ w' : World, (∀ x ∈ M, w0.heap.size ≤ x.1 ∧ w'.heap[x.1]? = some (.cells x.2.1 x.2.2 (0, 0))) → w'.ownsRow w0.heap.size 42 2 v n xs) ∧ ∀ x ∈ M, x.2.2 = 42
theorem ownM_nil : OwnM w0 [] (.slice none 0 0) 0 [] := ⟨fun w' _ => World.ownsRow_nil _ _ _ _, fun x hx => by cases hx⟩
theorem ownM_of (h : w.ownsRow w0.heap.size 42 2 v m xs) : ∃ M, OwnM w0 M v m xs ∧ ∀ x ∈ M, w0.heap.size ≤ x.1 ∧ w.heap[x.1]? = some (.cells x.2.1 x.2.2 (0, 0)) := by
  have h0 := h
  obtain ⟨h1, h2⟩ := h
  rcases h2 with ⟨rfl, hn⟩ | ⟨g, cap, cur, rfl, hB, hh, hr⟩
  · exact ⟨[], ⟨fun w' _ => ⟨h1, Or.inl ⟨rfl, hn⟩⟩, fun x hx => by cases hx⟩, fun x hx => by cases hx⟩
  · refine ⟨[(g, cur, 42)], ⟨fun w' hw => ?_, fun x hx => ?_⟩, fun x hx => ?_⟩
    · exact ⟨h1, Or.inr ⟨g, cap, cur, rfl, hB, (hw (g, cur, 42) (by simp)).2, hr⟩⟩
    · simp at hx; rw [hx]
    · simp at hx; rw [hx]; exact ⟨hB, hh⟩
/-- A row of Subs lies in a block of Subs. -/
def SubT (B : Nat) (w : World) (A : Option Addr) (n : Nat) : Prop := 0 < n → ∀ b o, A = some ⟨b, o, none⟩ → B ≤ b ∧ ∃ cur, w.heap[b]? = some (.cells cur 42 (0, 0))
theorem subT_own {A : Option Addr} {n c B : Nat} (h : w.ownsRow B 42 2 (.slice A n c) n xs) : SubT B w A n := by
  intro hn b o e
  rcases h.2 with ⟨_, h0⟩ | ⟨g, cap, cur, hv, hB, hh, _⟩
  · omega
  · injection hv with h1 _ _
    rw [e] at h1
    cases h1
    exact ⟨hB, cur, hh⟩
theorem subT_base {A : Option Addr} {n B B' : Nat} (h : SubT B w A n) (hB : B' ≤ B) : SubT B' w A n := fun hn b o e => by
  obtain ⟨h1, h2⟩ := h hn b o e
  exact ⟨Nat.le_trans hB h1, h2⟩
theorem sub_news {g : Nat} {f : List UInt8} {q : Int} {t : TypeId} {L : List (Nat × Array Value × TypeId)} (h : Kp w0 ((g, SbC f q, t) :: L) w) : ∀ j u, (flatS [(f, q)])[j]? = some u → w.cell? ((⟨g, 0, none⟩ : Addr).add j) = some u := by
  intro j u hu
  have hadd : (⟨g, 0, none⟩ : Addr).add j = ⟨g, j, none⟩ := by unfold Addr.add; split <;> simp_all
  rw [hadd, h.cell j]
  match j, hu with
  | 0, hu => simpa [flatS, SbC] using hu
  | 1, hu => simpa [flatS, SbC] using hu
  | j + 2, hu => simp [flatS] at hu
end
section
variable {w0 w : World} {g : Nat} {l : List UInt8} {f : Bool} {p : Pk} {t : TypeId} {L : List (Nat × Array Value × TypeId)}
set_option maxHeartbeats 4000000 in
theorem pSubs (h : Kp w0 ((g, Rw l f (PkC p none 0 0), t) :: L) w) (hne : ∀ x ∈ L, x.1 ≠ g) (ht : t ≠ 42) (hT : ∀ x ∈ L, x.2.2 ≠ 42) (hl : l.length ≤ 1000000) (T : Int) (hty : p.ty = T) (hTT : T = 8 ∨ T = 10) :
    Calls Tryz.prog 69 #[.pointer (some ⟨g, 0, none⟩)] w fun e w' => e = .returned (.tuple #[]) ∧ ∃ A c, Kp w0 ((g, Rw [] (suT T (woL l) (woF l f)).1 (PkC (p.s_id (woV l)) A (suT T (woL l) (woF l f)).2.length c), t) :: L) w'
      ∧ Subs w' A (suT T (woL l) (woF l f)).2.length (suT T (woL l) (woF l f)).2 ∧ (A = none → c = 0) ∧ SubT w0.heap.size w' A (suT T (woL l) (woF l f)).2.length := by
  have hwl := woL_le l
  obtain ⟨F, hF⟩ : ∃ F, F = (suT T (woL l) (woF l f)).1 := ⟨_, rfl⟩
  obtain ⟨XS, hXS⟩ : ∃ XS, XS = (suT T (woL l) (woF l f)).2 := ⟨_, rfl⟩
  rw [← hF, ← hXS]
  obtain ⟨l0, hl0⟩ : ∃ l0, l0 = woL l := ⟨_, rfl⟩
  obtain ⟨f0, hf0⟩ : ∃ f0, f0 = woF l f := ⟨_, rfl⟩
  obtain ⟨q, hq⟩ : ∃ q, q = p.s_id (woV l) := ⟨_, rfl⟩
  have hl0l : l0.length ≤ 1000000 := by rw [hl0]; omega
  have hqt : q.ty = T := by rw [hq]; exact hty
  have HST : Hid ((suT T l0 f0).1 = F ∧ [] ++ (suT T l0 f0).2 = XS) := by show _ ∧ _; rw [hl0, hf0]; exact ⟨hF.symm, by simp [hXS]⟩
  have HQ := Lib.hid hq
  have HL0 := Lib.hid hl0
  have HF0 := Lib.hid hf0
  have HQT : Hid (q.ty = T) := hqt
  have hTY : Hid (∀ x ∈ (g, (#[] : Array Value), t) :: L, x.2.2 ≠ 42) := by
    intro x hx
    rcases List.mem_cons.1 hx with rfl | hx
    · exact ht
    · exact hT x hx
  obtain ⟨i, hi, hz0, hz1, hz2⟩ := info_parts sub_info
  clear hF hXS hty hqt hwl
  rw [← hq]
  clear hq hl0 hf0
  rcases hTT with rfl | rfl
  · have hq8 : (q.ty == 8) = true := by rw [HQT.out]; rfl
    go_enter Tryz.func69, Tryz.ntmps69
    go_wp2_with fail
    refine (rWord h hne (by omega)).mono ?_
    rintro e w1 ⟨rfl, hK1⟩
    clear h
    have hK2 := hK1.set hne (Rw l0 f0 (PkC q none 0 0))
    rw [← HL0.out, ← HF0.out] at hK1
    have a1r := hK1.row; have a1f := hK1.free; have a1c := hK1.cell; have a1l := hK1.lt; have a1z := hK1.froz
    go_wp2_with fail
    have HW : Hid (w1.setRow g (Rw l0 f0 (PkC (p.s_id (woV l)) none 0 0)) = w1.setRow g (Rw l0 f0 (PkC q none 0 0))) := by show _ = _; rw [HQ.out]
    rw [HW.out]
    obtain ⟨w2, hw2⟩ : ∃ w2, w2 = w1.setRow g (Rw l0 f0 (PkC q none 0 0)) := ⟨_, rfl⟩
    rw [← hw2] at hK2 ⊢
    clear hw2 HW a1r a1f a1c a1l a1z hK1
    go_loopw [2] (fun _ wr => ∃ (li : List UInt8) (fi : Bool) (xs : List (List UInt8 × Int)) (A : Option Addr) (c : Nat) (M : List (Nat × Array Value × TypeId)), Kp w0 ((g, Rw li fi (PkC q A xs.length c), t) :: (M ++ L)) wr ∧ OwnM w0 M (.slice A xs.length c) xs.length (flatS xs) ∧ (∀ x ∈ M ++ L, x.1 ≠ g) ∧ Hid ((suT 8 li fi).1 = F ∧ xs ++ (suT 8 li fi).2 = XS) ∧ xs.length + li.length ≤ 1000000) (fun _ wr => leftN wr g)
    case atStart => exact ⟨l0, f0, [], none, 0, [], hK2, ownM_nil, hne, HST, by simpa using hl0l⟩
    case round =>
      clear hK2
      obtain ⟨li, fi, xs, A, c, M, hK, hOM, hnM, hst, hlen⟩ := hrel
      have hleft : leftN wr g = li.length := leftN_of hK.row
      obtain ⟨k, hk⟩ : ∃ k, k = xs.length := ⟨_, rfl⟩
      have HK := Lib.hid hk
      rw [← hk] at hK hOM hlen
      clear hk
      by_cases hli : li = []
      · subst hli
        have hst2 : F = fi ∧ xs = XS := by have := hst.out; rw [suT_nil] at this; exact ⟨this.1.symm, by simpa using this.2⟩
        obtain ⟨rfl, rfl⟩ := hst2
        have hown := hOM.1 wr (fun x hx => hK.rows x (by simp [hx]))
        rw [HK.out] at hown
        obtain ⟨A', c', hv, hS, hc', _⟩ := subs_of_own hown
        rw [← HK.out] at hown
        injection hv with e1 _ e3
        subst e1 e3
        have hfin := hK.sub (K' := (g, Rw [] F (PkC q A k c), t) :: L) (fun x hx => by simp only [List.mem_cons, List.mem_append] at hx ⊢; rcases hx with hx | hx <;> simp [hx])
        rw [HK.out] at hfin
        have HFIN := Lib.hid hfin
        have HSS := Lib.hid hS
        have HCC := Lib.hid hc'
        have HTS := Lib.hid (subT_own hown)
        rw [HK.out] at HTS
        clear hfin hS hc' hown hOM hleft
        have a1r := hK.row; have a1f := hK.free; have a1c := hK.cell; have a1l := hK.lt; have a1z := hK.froz
        go_wp2_with fail
        go_end0
        exact ⟨rfl, A, c, HFIN.out, HSS.out, HCC.out, HTS.out⟩
      · have hlb : (li == []) = false := by rw [beq_eq_false_iff_ne]; exact hli
        have HU := Lib.hid (suT_8 li fi hli)
        have hlt := gtL_lt li hli
        have hKK := hK
        have a1r := hKK.row; have a1f := hKK.free; have a1c := hKK.cell; have a1l := hKK.lt; have a1z := hKK.froz
        clear hKK hli hleft
        go_wp2_with fail
        refine (rText hK hnM (by omega)).mono ?_
        rintro e w3 ⟨rfl, hK3⟩
        clear a1r a1f a1c a1l a1z
        have hleft : leftN wr g = li.length := leftN_of hK.row
        clear hK
        obtain ⟨x, hx⟩ : ∃ x, x = gtV (getR li) := ⟨_, rfl⟩
        obtain ⟨l1, hl1⟩ : ∃ l1, l1 = gtL li (getR li) := ⟨_, rfl⟩
        obtain ⟨f1, hf1⟩ : ∃ f1, f1 = gtF fi (getR li) := ⟨_, rfl⟩
        rw [← hl1, ← hf1] at hK3
        rw [← hl1] at hlt
        rw [← hx, ← hl1, ← hf1] at HU
        rw [← hx]
        clear hx hl1 hf1
        have hgl := hK3.lt
        have hK4 := hK3.new (SbC x 0) 42
        have hn3 : ∀ y ∈ (g, Rw l1 f1 (PkC q A k c), t) :: (M ++ L), y.1 ≠ w3.heap.size := fun y hy => by have := (Array.getElem?_eq_some_iff.1 (hK3.rows y hy).2).1; omega
        have hn4 : ∀ y ∈ (w3.heap.size, SbC x 0, 42) :: (M ++ L), y.1 ≠ g := by
          intro y hy
          rcases List.mem_cons.1 hy with rfl | hy
          · show w3.heap.size ≠ g; omega
          · exact hnM y hy
        have a1r := hK3.row; have a1f := hK3.free; have a1c := hK3.cell; have a1l := hK3.lt; have a1z := hK3.froz
        have n1 : ¬ g = w3.heap.size := by omega
        have n2 : ¬ w3.heap.size = g := by omega
        go_wp2_with fail
        refine (rByte hK4.swap hn4 (by omega)).mono ?_
        rintro e w4 ⟨rfl, hK5⟩
        clear a1r a1f a1c a1l a1z hK3 hK4 hn4
        have hn5 : ∀ y ∈ (g, Rw l1.tail (byF l1 f1) (PkC q A k c), t) :: (M ++ L), y.1 ≠ w3.heap.size := by
          intro y hy
          rcases List.mem_cons.1 hy with rfl | hy
          · exact n1
          · exact hn3 y (by simp [hy])
        have hK6 := hK5.swap.set hn5 (SbC x (byV l1))
        have hK7 := hK5.swap
        have a1r := hK7.row; have a1f := hK7.free; have a1c := hK7.cell; have a1l := hK7.lt; have a1z := hK7.froz
        have a2r := hK7.tail.row; have a2f := hK7.tail.free; have a2c := hK7.tail.cell; have a2l := hK7.tail.lt; have a2z := hK7.tail.froz
        go_upto_region 5 with fail
        obtain ⟨w5, hw5⟩ : ∃ w5, w5 = w4.setRow w3.heap.size (SbC x (byV l1)) := ⟨_, rfl⟩
        rw [← hw5] at hK6 ⊢
        clear hw5 a1r a1f a1c a1l a1z a2r a2f a2c a2l a2z hK5 hK7
        have hlt2 : l1.tail.length < li.length := by rw [List.length_tail]; omega
        obtain ⟨l2, hl2⟩ : ∃ l2, l2 = l1.tail := ⟨_, rfl⟩
        obtain ⟨f2, hf2⟩ : ∃ f2, f2 = (byF l1 f1) := ⟨_, rfl⟩
        obtain ⟨y, hy⟩ : ∃ y : Int, y = (byV l1) := ⟨_, rfl⟩
        rw [← hl2, ← hf2, ← hy] at hK6 HU
        rw [← hl2] at hlt2
        clear hy hl2 hf2
        obtain ⟨h5, hh5⟩ : ∃ h5, h5 = w3.heap.size := ⟨_, rfl⟩
        rw [← hh5] at hK6 n1 n2 hn3 ⊢
        clear hh5
        have hKa := hK6.drew.new (SbC x y) 42
        have HOW := Lib.hid (hOM.1 _ (fun z hz => hKa.rows z (by simp [hz])))
        have HNEW := Lib.hid (sub_news hKa)
        have HKB := Lib.hid (hKa.sub (K' := (g, Rw l2 f2 (PkC q A k c), t) :: L) (fun z hz => by simp only [List.mem_cons, List.mem_append] at hz ⊢; rcases hz with hz | hz <;> simp [hz]))
        have HTT : Hid (∀ z ∈ (g, Rw l2 f2 (PkC q A k c), t) :: L, z.2.2 ≠ 42) := fun z hz => (by rcases List.mem_cons.1 hz with rfl | hz; exact ht; exact hT z hz)
        have hbs := hKa.below.size
        have a1r := hK6.row; have a1f := hK6.free; have a1c := hK6.cell; have a1l := hK6.lt; have a1z := hK6.froz
        have a2r := hK6.tail.row; have a2f := hK6.tail.free; have a2c := hK6.tail.cell; have a2l := hK6.tail.lt; have a2z := hK6.tail.froz
        clear hKa
        have HX := Lib.hid hlen
        go_region_law (refine step_append_lies _ rfl _ _ 34 rfl w0.heap.size 42 i _ 2 24 Tryz.underlying34 hi hz0 hz1 hz2 rfl (by decide) (.slice A k c) k (flatS xs) rfl HOW.out _ 1 1 (flatS [(x, y)]) rfl rfl HNEW.out (flatS_one _) (by decide) (by unfold maxLen; omega) (by omega) hbs _ rfl ?_; intro g9 c9 w9 hown9 hgr9 _ _; have hK9 := HKB.out.grown HOW.out hgr9 HTT.out; have b1r := hK9.row; have b1f := hK9.free; have b1c := hK9.cell; have b1l := hK9.lt; have b1z := hK9.froz; have HO9 := Lib.hid hown9; clear hown9 hgr9)
        all_goals
          obtain ⟨M9, hM9, hR9⟩ := ownM_of HO9.out
          have hn9 : ∀ z ∈ M9 ++ L, z.1 ≠ g := by
            intro z hz
            rcases List.mem_append.1 hz with hz | hz
            · intro e
              have e1 := (hR9 z hz).2
              have e2 := (hK9.rows _ (List.mem_cons_self ..)).2
              rw [e] at e1
              rw [e1] at e2
              injection e2 with e2
              injection e2 with _ e3 _
              exact ht (e3.symm.trans (hM9.2 z hz))
            · exact hne z hz
          have hfin := ((hK9.add (M := M9) hR9).sub (K' := (g, Rw l2 f2 (PkC q A k c), t) :: (M9 ++ L)) (fun z hz => by simp only [List.mem_cons, List.mem_append] at hz ⊢; rcases hz with hz | hz | hz <;> simp [hz])).set hn9 (Rw l2 f2 (PkC q (some ⟨g9, 0, none⟩) (k + 1) c9))
          have hln : (xs ++ [(x, y)]).length = k + 1 := by rw [HK.out]; simp
          have hst9 : Hid ((suT 8 l2 f2).1 = F ∧ (xs ++ [(x, y)]) ++ (suT 8 l2 f2).2 = XS) := by
            have h9 := hst.out
            rw [HU.out] at h9
            show _ ∧ _
            refine ⟨h9.1, ?_⟩
            rw [← h9.2]
            simp
          have hms : leftN (w9.setRow g (Rw l2 f2 (PkC q (some ⟨g9, 0, none⟩) (k + 1) c9))) g < leftN wr g := by rw [hleft, leftN_of hfin.row]; exact hlt2
          have HM9 := Lib.hid hM9
          have HFIN := Lib.hid hfin
          have HMS := Lib.hid hms
          clear hM9 hR9 hfin hms b1r b1f b1c b1l b1z hK9 HO9 a1r a1f a1c a1l a1z a2r a2f a2c a2l a2z
          go_wp2_with fail
          go_roundw
          case rel => exact ⟨l2, f2, xs ++ [(x, y)], some ⟨g9, 0, none⟩, c9, M9, by rw [hln]; exact HFIN.out, by rw [hln, flatS_app]; exact HM9.out, hn9, hst9, by rw [hln]; omega⟩
          case measure => exact HMS.out
  · have hq8 : (q.ty == 8) = false := by rw [HQT.out]; rfl
    go_enter Tryz.func69, Tryz.ntmps69
    go_wp2_with fail
    refine (rWord h hne (by omega)).mono ?_
    rintro e w1 ⟨rfl, hK1⟩
    clear h
    have hK2 := hK1.set hne (Rw l0 f0 (PkC q none 0 0))
    rw [← HL0.out, ← HF0.out] at hK1
    have a1r := hK1.row; have a1f := hK1.free; have a1c := hK1.cell; have a1l := hK1.lt; have a1z := hK1.froz
    go_wp2_with fail
    have HW : Hid (w1.setRow g (Rw l0 f0 (PkC (p.s_id (woV l)) none 0 0)) = w1.setRow g (Rw l0 f0 (PkC q none 0 0))) := by show _ = _; rw [HQ.out]
    rw [HW.out]
    obtain ⟨w2, hw2⟩ : ∃ w2, w2 = w1.setRow g (Rw l0 f0 (PkC q none 0 0)) := ⟨_, rfl⟩
    rw [← hw2] at hK2 ⊢
    clear hw2 HW a1r a1f a1c a1l a1z hK1
    go_loopw [2] (fun _ wr => ∃ (li : List UInt8) (fi : Bool) (xs : List (List UInt8 × Int)) (A : Option Addr) (c : Nat) (M : List (Nat × Array Value × TypeId)), Kp w0 ((g, Rw li fi (PkC q A xs.length c), t) :: (M ++ L)) wr ∧ OwnM w0 M (.slice A xs.length c) xs.length (flatS xs) ∧ (∀ x ∈ M ++ L, x.1 ≠ g) ∧ Hid ((suT 10 li fi).1 = F ∧ xs ++ (suT 10 li fi).2 = XS) ∧ xs.length + li.length ≤ 1000000) (fun _ wr => leftN wr g)
    case atStart => exact ⟨l0, f0, [], none, 0, [], hK2, ownM_nil, hne, HST, by simpa using hl0l⟩
    case round =>
      clear hK2
      obtain ⟨li, fi, xs, A, c, M, hK, hOM, hnM, hst, hlen⟩ := hrel
      have hleft : leftN wr g = li.length := leftN_of hK.row
      obtain ⟨k, hk⟩ : ∃ k, k = xs.length := ⟨_, rfl⟩
      have HK := Lib.hid hk
      rw [← hk] at hK hOM hlen
      clear hk
      by_cases hli : li = []
      · subst hli
        have hst2 : F = fi ∧ xs = XS := by have := hst.out; rw [suT_nil] at this; exact ⟨this.1.symm, by simpa using this.2⟩
        obtain ⟨rfl, rfl⟩ := hst2
        have hown := hOM.1 wr (fun x hx => hK.rows x (by simp [hx]))
        rw [HK.out] at hown
        obtain ⟨A', c', hv, hS, hc', _⟩ := subs_of_own hown
        rw [← HK.out] at hown
        injection hv with e1 _ e3
        subst e1 e3
        have hfin := hK.sub (K' := (g, Rw [] F (PkC q A k c), t) :: L) (fun x hx => by simp only [List.mem_cons, List.mem_append] at hx ⊢; rcases hx with hx | hx <;> simp [hx])
        rw [HK.out] at hfin
        have HFIN := Lib.hid hfin
        have HSS := Lib.hid hS
        have HCC := Lib.hid hc'
        have HTS := Lib.hid (subT_own hown)
        rw [HK.out] at HTS
        clear hfin hS hc' hown hOM hleft
        have a1r := hK.row; have a1f := hK.free; have a1c := hK.cell; have a1l := hK.lt; have a1z := hK.froz
        go_wp2_with fail
        go_end0
        exact ⟨rfl, A, c, HFIN.out, HSS.out, HCC.out, HTS.out⟩
      · have hlb : (li == []) = false := by rw [beq_eq_false_iff_ne]; exact hli
        have HU := Lib.hid (suT_10 10 li fi hli (by decide))
        have hlt := gtL_lt li hli
        have hKK := hK
        have a1r := hKK.row; have a1f := hKK.free; have a1c := hKK.cell; have a1l := hKK.lt; have a1z := hKK.froz
        clear hKK hli hleft
        go_wp2_with fail
        refine (rText hK hnM (by omega)).mono ?_
        rintro e w3 ⟨rfl, hK3⟩
        clear a1r a1f a1c a1l a1z
        have hleft : leftN wr g = li.length := leftN_of hK.row
        clear hK
        obtain ⟨x, hx⟩ : ∃ x, x = gtV (getR li) := ⟨_, rfl⟩
        obtain ⟨l1, hl1⟩ : ∃ l1, l1 = gtL li (getR li) := ⟨_, rfl⟩
        obtain ⟨f1, hf1⟩ : ∃ f1, f1 = gtF fi (getR li) := ⟨_, rfl⟩
        rw [← hl1, ← hf1] at hK3
        rw [← hl1] at hlt
        rw [← hx, ← hl1, ← hf1] at HU
        rw [← hx]
        clear hx hl1 hf1
        have hgl := hK3.lt
        have hK4 := hK3.new (SbC x 0) 42
        have hn3 : ∀ y ∈ (g, Rw l1 f1 (PkC q A k c), t) :: (M ++ L), y.1 ≠ w3.heap.size := fun y hy => by have := (Array.getElem?_eq_some_iff.1 (hK3.rows y hy).2).1; omega
        have hn4 : ∀ y ∈ (w3.heap.size, SbC x 0, 42) :: (M ++ L), y.1 ≠ g := by
          intro y hy
          rcases List.mem_cons.1 hy with rfl | hy
          · show w3.heap.size ≠ g; omega
          · exact hnM y hy
        have a1r := hK3.row; have a1f := hK3.free; have a1c := hK3.cell; have a1l := hK3.lt; have a1z := hK3.froz
        have n1 : ¬ g = w3.heap.size := by omega
        have n2 : ¬ w3.heap.size = g := by omega
        go_upto_region 5 with fail
        obtain ⟨w5, hw5⟩ : ∃ w5, w5 = w3.alloc (.cells (SbC x 0) 42) := ⟨_, rfl⟩
        rw [← hw5] at hK4 ⊢
        have hK6 := hK4
        clear hw5 a1r a1f a1c a1l a1z hK3 hK4 hn4
        have hlt2 := hlt
        obtain ⟨l2, hl2⟩ : ∃ l2, l2 = l1 := ⟨_, rfl⟩
        obtain ⟨f2, hf2⟩ : ∃ f2, f2 = f1 := ⟨_, rfl⟩
        obtain ⟨y, hy⟩ : ∃ y : Int, y = 0 := ⟨_, rfl⟩
        rw [← hl2, ← hf2, ← hy] at hK6
        rw [← hl2] at hlt2
        rw [← hl2, ← hf2] at HU
        have HY := Lib.hid hy
        clear hy hl2 hf2
        obtain ⟨h5, hh5⟩ : ∃ h5, h5 = w3.heap.size := ⟨_, rfl⟩
        rw [← hh5] at hK6 n1 n2 hn3 ⊢
        clear hh5
        have hKa := hK6.drew.new (SbC x y) 42
        have HOW := Lib.hid (hOM.1 _ (fun z hz => hKa.rows z (by simp [hz])))
        have HNEW := Lib.hid (sub_news hKa)
        have HKB := Lib.hid (hKa.sub (K' := (g, Rw l2 f2 (PkC q A k c), t) :: L) (fun z hz => by simp only [List.mem_cons, List.mem_append] at hz ⊢; rcases hz with hz | hz <;> simp [hz]))
        have HTT : Hid (∀ z ∈ (g, Rw l2 f2 (PkC q A k c), t) :: L, z.2.2 ≠ 42) := fun z hz => (by rcases List.mem_cons.1 hz with rfl | hz; exact ht; exact hT z hz)
        have hbs := hKa.below.size
        have a1r := hK6.row; have a1f := hK6.free; have a1c := hK6.cell; have a1l := hK6.lt; have a1z := hK6.froz
        have a2r := hK6.tail.row; have a2f := hK6.tail.free; have a2c := hK6.tail.cell; have a2l := hK6.tail.lt; have a2z := hK6.tail.froz
        clear hKa
        have HX := Lib.hid hlen
        go_region_law (refine step_append_lies _ rfl _ _ 34 rfl w0.heap.size 42 i _ 2 24 Tryz.underlying34 hi hz0 hz1 hz2 rfl (by decide) (.slice A k c) k (flatS xs) rfl HOW.out _ 1 1 (flatS [(x, y)]) rfl rfl HNEW.out (flatS_one _) (by decide) (by unfold maxLen; omega) (by omega) hbs _ rfl ?_; intro g9 c9 w9 hown9 hgr9 _ _; have hK9 := HKB.out.grown HOW.out hgr9 HTT.out; have b1r := hK9.row; have b1f := hK9.free; have b1c := hK9.cell; have b1l := hK9.lt; have b1z := hK9.froz; have HO9 := Lib.hid hown9; clear hown9 hgr9)
        all_goals
          obtain ⟨M9, hM9, hR9⟩ := ownM_of HO9.out
          have hn9 : ∀ z ∈ M9 ++ L, z.1 ≠ g := by
            intro z hz
            rcases List.mem_append.1 hz with hz | hz
            · intro e
              have e1 := (hR9 z hz).2
              have e2 := (hK9.rows _ (List.mem_cons_self ..)).2
              rw [e] at e1
              rw [e1] at e2
              injection e2 with e2
              injection e2 with _ e3 _
              exact ht (e3.symm.trans (hM9.2 z hz))
            · exact hne z hz
          have hfin := ((hK9.add (M := M9) hR9).sub (K' := (g, Rw l2 f2 (PkC q A k c), t) :: (M9 ++ L)) (fun z hz => by simp only [List.mem_cons, List.mem_append] at hz ⊢; rcases hz with hz | hz | hz <;> simp [hz])).set hn9 (Rw l2 f2 (PkC q (some ⟨g9, 0, none⟩) (k + 1) c9))
          have hln : (xs ++ [(x, y)]).length = k + 1 := by rw [HK.out]; simp
          have hst9 : Hid ((suT 10 l2 f2).1 = F ∧ (xs ++ [(x, y)]) ++ (suT 10 l2 f2).2 = XS) := by
            have h9 := hst.out
            rw [HU.out] at h9
            show _ ∧ _
            refine ⟨h9.1, ?_⟩
            rw [← h9.2]
            simp; exact HY.out
          have hms : leftN (w9.setRow g (Rw l2 f2 (PkC q (some ⟨g9, 0, none⟩) (k + 1) c9))) g < leftN wr g := by rw [hleft, leftN_of hfin.row]; exact hlt2
          have HM9 := Lib.hid hM9
          have HFIN := Lib.hid hfin
          have HMS := Lib.hid hms
          clear hM9 hR9 hfin hms b1r b1f b1c b1l b1z hK9 HO9 a1r a1f a1c a1l a1z a2r a2f a2c a2l a2z
          go_wp2_with fail
          go_roundw
          case rel => exact ⟨l2, f2, xs ++ [(x, y)], some ⟨g9, 0, none⟩, c9, M9, by rw [hln]; exact HFIN.out, by rw [hln, flatS_app]; exact HM9.out, hn9, hst9, by rw [hln]; omega⟩
          case measure => exact HMS.out
end
end Go.Proofs.YtnaedcennichlaaGreatDoor
