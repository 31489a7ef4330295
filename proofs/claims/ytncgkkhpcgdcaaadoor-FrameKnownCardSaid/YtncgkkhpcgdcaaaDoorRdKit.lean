/-
  A byte reader, alone or in a parser: its row of cells, and what its methods do.
-/
import Derived.Test.YtncgkkhpcgdcaaaDoorPkI
import Derived.Test.YtncgkkhpcgdcaaaDoorTextWalks
import Derived.Test.YtncgkkhpcgdcaaaDoorRdFwd
set_option linter.unusedSimpArgs false
set_option linter.unusedVariables false
namespace Go.Proofs.YtncgkkhpcgdcaaaDoor
open Go.RowKit
set_option maxRecDepth 100000
/-- The cells of a reader, and what stands behind it. -/
def Rw (l : List UInt8) (f : Bool) (R : Array Value) : Array Value := #[.string ⟨l.toArray⟩, .bool f] ++ R
section
variable {l l' : List UInt8} {f f' : Bool} {R R' : Array Value} {p q : Pk} {A B : Option Addr} {n c m d : Nat}
@[go_sem, simp] theorem Rw_size : (Rw l f R).size = R.size + 2 := by simp [Rw]; omega
@[go_sem] theorem Rw_one : ones (Rw l f R) = ones R := by simp [Rw, ones, Value.oneCell']
@[go_sem] theorem Rw_ne : (Rw l f R = #[]) = False := by simp [Rw]
@[go_sem high] theorem Rw_0 : (Rw l f R)[0]? = some (.string ⟨l.toArray⟩) := by unfold Rw; rw [Array.getElem?_append_left (by simp)]; rfl
@[go_sem high] theorem Rw_1 : (Rw l f R)[1]? = some (.bool f) := by unfold Rw; rw [Array.getElem?_append_left (by simp)]; rfl
@[go_sem] theorem Rw_set0 (x : List UInt8) : (Rw l f R).setIfInBounds 0 (.string ⟨x.toArray⟩) = Rw x f R := by simp [Rw]
@[go_sem] theorem Rw_set1 (x : Bool) : (Rw l f R).setIfInBounds 1 (.bool x) = Rw l x R := by simp [Rw]
theorem Rw_get (k : Nat) : (Rw l f R)[k + 2]? = R[k]? := by unfold Rw; rw [Array.getElem?_append_right (by simp)]; simp
theorem Rw_put (k : Nat) (v : Value) : (Rw l f R).setIfInBounds (k + 2) v = Rw l f (R.setIfInBounds k v) := by
  apply Array.ext_getElem?
  intro i
  rw [Array.getElem?_setIfInBounds]
  match i with
  | 0 => rw [if_neg (by omega), Rw_0, Rw_0]
  | 1 => rw [if_neg (by omega), Rw_1, Rw_1]
  | i + 2 =>
    rw [Rw_get, Rw_get, Array.getElem?_setIfInBounds]
    simp
@[go_sem high] theorem Rw_2 : (Rw l f R)[2]? = R[0]? := Rw_get 0
@[go_sem] theorem Rw_set2 (v : Value) : (Rw l f R).setIfInBounds 2 v = Rw l f (R.setIfInBounds 0 v) := Rw_put 0 v
@[go_sem high] theorem Rw_3 : (Rw l f R)[3]? = R[1]? := Rw_get 1
@[go_sem] theorem Rw_set3 (v : Value) : (Rw l f R).setIfInBounds 3 v = Rw l f (R.setIfInBounds 1 v) := Rw_put 1 v
@[go_sem high] theorem Rw_4 : (Rw l f R)[4]? = R[2]? := Rw_get 2
@[go_sem] theorem Rw_set4 (v : Value) : (Rw l f R).setIfInBounds 4 v = Rw l f (R.setIfInBounds 2 v) := Rw_put 2 v
@[go_sem high] theorem Rw_5 : (Rw l f R)[5]? = R[3]? := Rw_get 3
@[go_sem] theorem Rw_set5 (v : Value) : (Rw l f R).setIfInBounds 5 v = Rw l f (R.setIfInBounds 3 v) := Rw_put 3 v
@[go_sem high] theorem Rw_6 : (Rw l f R)[6]? = R[4]? := Rw_get 4
@[go_sem] theorem Rw_set6 (v : Value) : (Rw l f R).setIfInBounds 6 v = Rw l f (R.setIfInBounds 4 v) := Rw_put 4 v
@[go_sem high] theorem Rw_7 : (Rw l f R)[7]? = R[5]? := Rw_get 5
@[go_sem] theorem Rw_set7 (v : Value) : (Rw l f R).setIfInBounds 7 v = Rw l f (R.setIfInBounds 5 v) := Rw_put 5 v
@[go_sem high] theorem Rw_8 : (Rw l f R)[8]? = R[6]? := Rw_get 6
@[go_sem] theorem Rw_set8 (v : Value) : (Rw l f R).setIfInBounds 8 v = Rw l f (R.setIfInBounds 6 v) := Rw_put 6 v
@[go_sem high] theorem Rw_9 : (Rw l f R)[9]? = R[7]? := Rw_get 7
@[go_sem] theorem Rw_set9 (v : Value) : (Rw l f R).setIfInBounds 9 v = Rw l f (R.setIfInBounds 7 v) := Rw_put 7 v
@[go_sem high] theorem Rw_10 : (Rw l f R)[10]? = R[8]? := Rw_get 8
@[go_sem] theorem Rw_set10 (v : Value) : (Rw l f R).setIfInBounds 10 v = Rw l f (R.setIfInBounds 8 v) := Rw_put 8 v
@[go_sem high] theorem Rw_11 : (Rw l f R)[11]? = R[9]? := Rw_get 9
@[go_sem] theorem Rw_set11 (v : Value) : (Rw l f R).setIfInBounds 11 v = Rw l f (R.setIfInBounds 9 v) := Rw_put 9 v
@[go_sem high] theorem Rw_12 : (Rw l f R)[12]? = R[10]? := Rw_get 10
@[go_sem] theorem Rw_set12 (v : Value) : (Rw l f R).setIfInBounds 12 v = Rw l f (R.setIfInBounds 10 v) := Rw_put 10 v
@[go_sem high] theorem Rw_13 : (Rw l f R)[13]? = R[11]? := Rw_get 11
@[go_sem] theorem Rw_set13 (v : Value) : (Rw l f R).setIfInBounds 13 v = Rw l f (R.setIfInBounds 11 v) := Rw_put 11 v
@[go_sem high] theorem Rw_14 : (Rw l f R)[14]? = R[12]? := Rw_get 12
@[go_sem] theorem Rw_set14 (v : Value) : (Rw l f R).setIfInBounds 14 v = Rw l f (R.setIfInBounds 12 v) := Rw_put 12 v
@[go_sem high] theorem Rw_15 : (Rw l f R)[15]? = R[13]? := Rw_get 13
@[go_sem] theorem Rw_set15 (v : Value) : (Rw l f R).setIfInBounds 15 v = Rw l f (R.setIfInBounds 13 v) := Rw_put 13 v
@[go_sem high] theorem Rw_16 : (Rw l f R)[16]? = R[14]? := Rw_get 14
@[go_sem] theorem Rw_set16 (v : Value) : (Rw l f R).setIfInBounds 16 v = Rw l f (R.setIfInBounds 14 v) := Rw_put 14 v
@[go_sem high] theorem Rw_17 : (Rw l f R)[17]? = R[15]? := Rw_get 15
@[go_sem] theorem Rw_set17 (v : Value) : (Rw l f R).setIfInBounds 17 v = Rw l f (R.setIfInBounds 15 v) := Rw_put 15 v
@[go_sem high] theorem Rw_18 : (Rw l f R)[18]? = R[16]? := Rw_get 16
@[go_sem] theorem Rw_set18 (v : Value) : (Rw l f R).setIfInBounds 18 v = Rw l f (R.setIfInBounds 16 v) := Rw_put 16 v
@[go_sem high] theorem Rw_19 : (Rw l f R)[19]? = R[17]? := Rw_get 17
@[go_sem] theorem Rw_set19 (v : Value) : (Rw l f R).setIfInBounds 19 v = Rw l f (R.setIfInBounds 17 v) := Rw_put 17 v
@[go_sem high] theorem Rw_20 : (Rw l f R)[20]? = R[18]? := Rw_get 18
@[go_sem] theorem Rw_set20 (v : Value) : (Rw l f R).setIfInBounds 20 v = Rw l f (R.setIfInBounds 18 v) := Rw_put 18 v
@[go_sem high] theorem Rw_21 : (Rw l f R)[21]? = R[19]? := Rw_get 19
@[go_sem] theorem Rw_set21 (v : Value) : (Rw l f R).setIfInBounds 21 v = Rw l f (R.setIfInBounds 19 v) := Rw_put 19 v
@[go_sem high] theorem Rw_22 : (Rw l f R)[22]? = R[20]? := Rw_get 20
@[go_sem] theorem Rw_set22 (v : Value) : (Rw l f R).setIfInBounds 22 v = Rw l f (R.setIfInBounds 20 v) := Rw_put 20 v
@[go_sem high] theorem Rw_23 : (Rw l f R)[23]? = R[21]? := Rw_get 21
@[go_sem] theorem Rw_set23 (v : Value) : (Rw l f R).setIfInBounds 23 v = Rw l f (R.setIfInBounds 21 v) := Rw_put 21 v
@[go_sem high] theorem Rw_24 : (Rw l f R)[24]? = R[22]? := Rw_get 22
@[go_sem] theorem Rw_set24 (v : Value) : (Rw l f R).setIfInBounds 24 v = Rw l f (R.setIfInBounds 22 v) := Rw_put 22 v
@[go_sem high] theorem Rw_25 : (Rw l f R)[25]? = R[23]? := Rw_get 23
@[go_sem] theorem Rw_set25 (v : Value) : (Rw l f R).setIfInBounds 25 v = Rw l f (R.setIfInBounds 23 v) := Rw_put 23 v
@[go_sem] theorem Rw_g0 (h : 0 < (Rw l f R).size) : (Rw l f R)[0]'h = .string ⟨l.toArray⟩ := Option.some.inj (by rw [← Array.getElem?_eq_getElem h, Rw_0])
@[go_sem] theorem Rw_g1 (h : 1 < (Rw l f R).size) : (Rw l f R)[1]'h = .bool f := Option.some.inj (by rw [← Array.getElem?_eq_getElem h, Rw_1])
theorem Rw_at (k : Nat) (h : k + 2 < (Rw l f R).size) : (Rw l f R)[k + 2]'h = R[k]'(by rw [Rw_size] at h; omega) := Option.some.inj (by rw [← Array.getElem?_eq_getElem h, Rw_get, Array.getElem?_eq_getElem])
@[go_sem] theorem Rw_g2 (h : 2 < (Rw l f R).size) : (Rw l f R)[2]'h = R[0]'(by rw [Rw_size] at h; omega) := Rw_at 0 h
@[go_sem] theorem Rw_g3 (h : 3 < (Rw l f R).size) : (Rw l f R)[3]'h = R[1]'(by rw [Rw_size] at h; omega) := Rw_at 1 h
@[go_sem] theorem Rw_g4 (h : 4 < (Rw l f R).size) : (Rw l f R)[4]'h = R[2]'(by rw [Rw_size] at h; omega) := Rw_at 2 h
@[go_sem] theorem Rw_g5 (h : 5 < (Rw l f R).size) : (Rw l f R)[5]'h = R[3]'(by rw [Rw_size] at h; omega) := Rw_at 3 h
@[go_sem] theorem Rw_g6 (h : 6 < (Rw l f R).size) : (Rw l f R)[6]'h = R[4]'(by rw [Rw_size] at h; omega) := Rw_at 4 h
@[go_sem] theorem Rw_g7 (h : 7 < (Rw l f R).size) : (Rw l f R)[7]'h = R[5]'(by rw [Rw_size] at h; omega) := Rw_at 5 h
@[go_sem] theorem Rw_g8 (h : 8 < (Rw l f R).size) : (Rw l f R)[8]'h = R[6]'(by rw [Rw_size] at h; omega) := Rw_at 6 h
@[go_sem] theorem Rw_g9 (h : 9 < (Rw l f R).size) : (Rw l f R)[9]'h = R[7]'(by rw [Rw_size] at h; omega) := Rw_at 7 h
@[go_sem] theorem Rw_g10 (h : 10 < (Rw l f R).size) : (Rw l f R)[10]'h = R[8]'(by rw [Rw_size] at h; omega) := Rw_at 8 h
@[go_sem] theorem Rw_g11 (h : 11 < (Rw l f R).size) : (Rw l f R)[11]'h = R[9]'(by rw [Rw_size] at h; omega) := Rw_at 9 h
@[go_sem] theorem Rw_g12 (h : 12 < (Rw l f R).size) : (Rw l f R)[12]'h = R[10]'(by rw [Rw_size] at h; omega) := Rw_at 10 h
@[go_sem] theorem Rw_g13 (h : 13 < (Rw l f R).size) : (Rw l f R)[13]'h = R[11]'(by rw [Rw_size] at h; omega) := Rw_at 11 h
@[go_sem] theorem Rw_g14 (h : 14 < (Rw l f R).size) : (Rw l f R)[14]'h = R[12]'(by rw [Rw_size] at h; omega) := Rw_at 12 h
@[go_sem] theorem Rw_g15 (h : 15 < (Rw l f R).size) : (Rw l f R)[15]'h = R[13]'(by rw [Rw_size] at h; omega) := Rw_at 13 h
@[go_sem] theorem Rw_g16 (h : 16 < (Rw l f R).size) : (Rw l f R)[16]'h = R[14]'(by rw [Rw_size] at h; omega) := Rw_at 14 h
@[go_sem] theorem Rw_g17 (h : 17 < (Rw l f R).size) : (Rw l f R)[17]'h = R[15]'(by rw [Rw_size] at h; omega) := Rw_at 15 h
@[go_sem] theorem Rw_g18 (h : 18 < (Rw l f R).size) : (Rw l f R)[18]'h = R[16]'(by rw [Rw_size] at h; omega) := Rw_at 16 h
@[go_sem] theorem Rw_g19 (h : 19 < (Rw l f R).size) : (Rw l f R)[19]'h = R[17]'(by rw [Rw_size] at h; omega) := Rw_at 17 h
@[go_sem] theorem Rw_g20 (h : 20 < (Rw l f R).size) : (Rw l f R)[20]'h = R[18]'(by rw [Rw_size] at h; omega) := Rw_at 18 h
@[go_sem] theorem Rw_g21 (h : 21 < (Rw l f R).size) : (Rw l f R)[21]'h = R[19]'(by rw [Rw_size] at h; omega) := Rw_at 19 h
@[go_sem] theorem Rw_g22 (h : 22 < (Rw l f R).size) : (Rw l f R)[22]'h = R[20]'(by rw [Rw_size] at h; omega) := Rw_at 20 h
@[go_sem] theorem Rw_g23 (h : 23 < (Rw l f R).size) : (Rw l f R)[23]'h = R[21]'(by rw [Rw_size] at h; omega) := Rw_at 21 h
@[go_sem] theorem Rw_g24 (h : 24 < (Rw l f R).size) : (Rw l f R)[24]'h = R[22]'(by rw [Rw_size] at h; omega) := Rw_at 22 h
@[go_sem] theorem Rw_g25 (h : 25 < (Rw l f R).size) : (Rw l f R)[25]'h = R[23]'(by rw [Rw_size] at h; omega) := Rw_at 23 h
@[go_sem] theorem Rw_left : (Rw l f (PkC p A n c)).extract 2 26 = PkC p A n c := by simp [Rw, PkC]
@[go_sem] theorem Rw_all : (Rw l f (PkC p A n c)).extract 0 26 = Rw l f (PkC p A n c) := by simp [Rw, PkC]
@[go_sem] theorem Rw_two : (Rw l f #[]).extract 0 2 = Rw l f #[] := by simp [Rw]
@[go_sem] theorem spl_Rw : spl (Rw l f (PkC p A n c)) 0 (Rw l' f' (PkC q B m d)).toList = Rw l' f' (PkC q B m d) := by simp [Rw, PkC, spl]
@[go_sem] theorem spl_Rd : spl (Rw l f #[]) 0 (Rw l' f' #[]).toList = Rw l' f' #[] := by simp [Rw, spl]
end
@[go_sem] theorem Rd_fold (l : List UInt8) (f : Bool) : (#[.string ⟨l.toArray⟩, .bool f] : Array Value) = Rw l f #[] := by rw [Rw]; rfl
@[go_sem] theorem Ps_fold (l : List UInt8) (f : Bool) (x_ty : Int) (x_dup : Bool) (x_qos : Int) (x_ret : Bool) (x_id : Int) (x_topic : List UInt8) (x_load : List UInt8) (x_level : Int) (x_clean : Bool) (x_keep : Int) (x_client : List UInt8) (x_hasWill : Bool) (x_wt : List UInt8) (x_wl : List UInt8) (x_wq : Int) (x_wr : Bool) (x_hasUser : Bool) (x_hasPass : Bool) (x_user : List UInt8) (x_pass : List UInt8) (x_present : Bool) (x_code : Int) (x_codes : List UInt8) (A : Option Addr) (n c : Nat) : (#[.string ⟨l.toArray⟩, .bool f, .int .u8 x_ty, .bool x_dup, .int .u8 x_qos, .bool x_ret, .int .u16 x_id, .string ⟨x_topic.toArray⟩, .string ⟨x_load.toArray⟩, .int .u8 x_level, .bool x_clean, .int .u16 x_keep, .string ⟨x_client.toArray⟩, .bool x_hasWill, .string ⟨x_wt.toArray⟩, .string ⟨x_wl.toArray⟩, .int .u8 x_wq, .bool x_wr, .bool x_hasUser, .bool x_hasPass, .string ⟨x_user.toArray⟩, .string ⟨x_pass.toArray⟩, .bool x_present, .int .u8 x_code, .slice A n c, .string ⟨x_codes.toArray⟩] : Array Value) = Rw l f (PkC ⟨x_ty, x_dup, x_qos, x_ret, x_id, x_topic, x_load, x_level, x_clean, x_keep, x_client, x_hasWill, x_wt, x_wl, x_wq, x_wr, x_hasUser, x_hasPass, x_user, x_pass, x_present, x_code, x_codes⟩ A n c) := by simp [Rw, PkC]
section
variable {w0 w : World} {g : Nat} {l : List UInt8} {f : Bool} {R : Array Value} {t : TypeId} {L : List (Nat × Array Value × TypeId)}
theorem rFail (h : Kp w0 ((g, Rw l f R, t) :: L) w) (hne : ∀ x ∈ L, x.1 ≠ g) :
    Calls Tryd.prog 54 #[.pointer (some ⟨g, 0, none⟩)] w fun e w' => e = .returned (.tuple #[]) ∧ Kp w0 ((g, Rw [] true R, t) :: L) w' := by
  have hfin : Kp w0 ((g, Rw [] true R, t) :: L) (w.setRow g (Rw [] true R)) := h.set hne _
  have a1r := h.row; have a1f := h.free; have a1c := h.cell; have a1l := h.lt; have a1z := h.froz
  clear h
  go_enter Tryd.func54, Tryd.ntmps54
  go_wp2_with fail
  go_end0
  exact ⟨rfl, hfin⟩
theorem rDrop (h : Kp w0 ((g, Rw l f R, t) :: L) w) (hne : ∀ x ∈ L, x.1 ≠ g) (k : Int) (h0 : 0 ≤ k) (hk : k ≤ l.length) :
    Calls Tryd.prog 55 #[.pointer (some ⟨g, 0, none⟩), .int .i64 k] w fun e w' => e = .returned (.tuple #[]) ∧ Kp w0 ((g, Rw (l.drop k.toNat) f R, t) :: L) w' := by
  have hfin : Kp w0 ((g, Rw (l.drop k.toNat) f R, t) :: L) (w.setRow g (Rw (l.drop k.toNat) f R)) := h.set hne _
  obtain ⟨j, rfl⟩ : ∃ j : Nat, k = j := ⟨k.toNat, by omega⟩
  rw [Int.toNat_natCast] at hfin ⊢
  have hj : j ≤ l.length := by omega
  have a1r := h.row; have a1f := h.free; have a1c := h.cell; have a1l := h.lt; have a1z := h.froz
  clear h
  go_enter Tryd.func55, Tryd.ntmps55
  go_wp2_with fail
  go_end0
  exact ⟨rfl, hfin⟩
theorem rByte (h : Kp w0 ((g, Rw l f R, t) :: L) w) (hne : ∀ x ∈ L, x.1 ≠ g) (hl : l.length ≤ 1000000000) :
    Calls Tryd.prog 42 #[.pointer (some ⟨g, 0, none⟩)] w fun e w' => e = .returned (.int .u8 (byV l)) ∧ Kp w0 ((g, Rw (l.tail) (byF l f) R, t) :: L) w' := by
  cases l with
  | nil =>
    have hK := h
    have a1r := h.row; have a1f := h.free; have a1c := h.cell; have a1l := h.lt; have a1z := h.froz
    clear h
    go_enter Tryd.func42, Tryd.ntmps42
    go_wp2_with fail
    refine (rFail hK hne).mono ?_
    rintro e w1 ⟨rfl, hK1⟩
    go_wp2_with fail
    go_ret
    exact ⟨rfl, hK1⟩
  | cons b r =>
    have hK := h
    have hlen : 1 ≤ (b :: r).length := by simp
    have HV : Hid (byV (b :: r) = (b.toNat : Int)) := rfl
    have HF : Hid (byF (b :: r) f = f) := by show _ = _; simp [byF]
    have HB : ∀ h0 : 0 < (b :: r).length, (b :: r)[0] = b := fun _ => rfl
    obtain ⟨S, hS⟩ : ∃ S, S = b :: r := ⟨_, rfl⟩
    have hS0 : (S == []) = false := by rw [hS]; rfl
    rw [← hS] at hK h hlen HV HF hl ⊢
    have HA : Hid (∀ h0 : 0 < S.length, S[0] = b) := by show _; intro h0; subst hS; rfl
    clear hS HB
    have a1r := h.row; have a1f := h.free; have a1c := h.cell; have a1l := h.lt; have a1z := h.froz
    clear h
    go_enter Tryd.func42, Tryd.ntmps42
    go_wp2_with fail
    refine (rDrop hK hne 1 (by omega) (by omega)).mono ?_
    rintro e w1 ⟨rfl, hK1⟩
    go_wp2_with fail
    go_ret
    refine ⟨?_, by rw [HF.out, ← List.drop_one]; exact hK1⟩
    rw [HV.out, ← HA.out (by omega)]
    rfl
theorem rField (h : Kp w0 ((g, Rw l f R, t) :: L) w) (hne : ∀ x ∈ L, x.1 ≠ g) (x : List UInt8) (u e : Int) (hu : e = 0 → 0 ≤ u ∧ u ≤ l.length) :
    Calls Tryd.prog 52 #[.pointer (some ⟨g, 0, none⟩), .string ⟨x.toArray⟩, .int .i64 u, .int .i64 e] w fun e' w' => e' = .returned (.string ⟨(gtV (x, u, e)).toArray⟩) ∧ Kp w0 ((g, Rw (gtL l (x, u, e)) (gtF f (x, u, e)) R, t) :: L) w' := by
  by_cases he : e = 0
  · subst he
    obtain ⟨h0, h1⟩ := hu rfl
    go_enter Tryd.func52, Tryd.ntmps52
    go_wp2_with fail
    refine (rDrop h hne u h0 h1).mono ?_
    rintro e w1 ⟨rfl, hK1⟩
    go_wp2_with fail
    go_ret
    exact ⟨rfl, hK1⟩
  · have hb : (e != 0) = true := by simpa using he
    have hV : Hid (gtV (x, u, e) = []) := by show _ = _; unfold gtV; rw [if_neg he]
    have hL : Hid (gtL l (x, u, e) = []) := by show _ = _; unfold gtL; rw [if_neg he]
    have hF : Hid (gtF f (x, u, e) = true) := by show _ = _; unfold gtF; rw [if_neg he]
    clear hu
    go_enter Tryd.func52, Tryd.ntmps52
    go_wp2_with fail
    refine (rFail h hne).mono ?_
    rintro e w1 ⟨rfl, hK1⟩
    go_wp2_with fail
    go_ret
    exact ⟨by rw [hV.out]; rfl, by rw [hL.out, hF.out]; exact hK1⟩
theorem getD_used (l : List UInt8) (h : (getD l).2.2 = 0) : 0 ≤ (getD l).2.1 ∧ (getD l).2.1 ≤ l.length := by
  obtain ⟨h1, h2, h3⟩ := getD_ok (l := l) (x := (getD l).1) (n := (getD l).2.1) (by rw [← h])
  have := congrArg List.length h1
  rw [List.length_append, fieldL_len, List.length_drop] at this
  omega
theorem getR_used (l : List UInt8) (h : (getR l).2.2 = 0) : 0 ≤ (getR l).2.1 ∧ (getR l).2.1 ≤ l.length := by
  obtain ⟨_, h1⟩ := getR_ok (l := l) (x := (getR l).1) (n := (getR l).2.1) (by rw [← h])
  have := getD_used l (by rw [h1])
  rw [h1] at this
  exact this
theorem rText (h : Kp w0 ((g, Rw l f R, t) :: L) w) (hne : ∀ x ∈ L, x.1 ≠ g) (hl : l.length ≤ 1000000000) :
    Calls Tryd.prog 41 #[.pointer (some ⟨g, 0, none⟩)] w fun e w' => e = .returned (.string ⟨(gtV (getR l)).toArray⟩) ∧ Kp w0 ((g, Rw (gtL l (getR l)) (gtF f (getR l)) R, t) :: L) w' := by
  have hu := Lib.hid (getR_used l)
  obtain ⟨x, hx⟩ : ∃ x, x = (getR l).1 := ⟨_, rfl⟩
  obtain ⟨u, hu1⟩ : ∃ u, u = (getR l).2.1 := ⟨_, rfl⟩
  obtain ⟨e, he⟩ : ∃ e, e = (getR l).2.2 := ⟨_, rfl⟩
  have hg : getR l = (x, u, e) := by rw [hx, hu1, he]
  have HG := Lib.hid (get_any l · hl)
  rw [hg] at HG hu ⊢
  clear hx hu1 he hg
  have hK := h
  have a1r := h.row; have a1f := h.free; have a1c := h.cell; have a1l := h.lt; have a1z := h.froz
  clear h
  go_enter Tryd.func41, Tryd.ntmps41
  go_wp2_with fail
  refine (HG.out _).mono ?_
  rintro e1 w1 ⟨rfl, hb1⟩
  have hK1 := hK.more hb1
  clear a1r a1f a1c a1l a1z hK hb1
  go_wp2_with fail
  refine (rField hK1 hne x u e hu.out).mono ?_
  rintro e1 w2 ⟨rfl, hK2⟩
  go_wp2_with fail
  go_ret
  exact ⟨rfl, hK2⟩
theorem rData (h : Kp w0 ((g, Rw l f R, t) :: L) w) (hne : ∀ x ∈ L, x.1 ≠ g) (hl : l.length ≤ 1000000000) :
    Calls Tryd.prog 74 #[.pointer (some ⟨g, 0, none⟩)] w fun e w' => e = .returned (.string ⟨(gtV (getD l)).toArray⟩) ∧ Kp w0 ((g, Rw (gtL l (getD l)) (gtF f (getD l)) R, t) :: L) w' := by
  have hu := Lib.hid (getD_used l)
  obtain ⟨x, hx⟩ : ∃ x, x = (getD l).1 := ⟨_, rfl⟩
  obtain ⟨u, hu1⟩ : ∃ u, u = (getD l).2.1 := ⟨_, rfl⟩
  obtain ⟨e, he⟩ : ∃ e, e = (getD l).2.2 := ⟨_, rfl⟩
  have hg : getD l = (x, u, e) := by rw [hx, hu1, he]
  have HG := Lib.hid (getData_any l · hl)
  rw [hg] at HG hu ⊢
  clear hx hu1 he hg
  have hK := h
  have a1r := h.row; have a1f := h.free; have a1c := h.cell; have a1l := h.lt; have a1z := h.froz
  clear h
  go_enter Tryd.func74, Tryd.ntmps74
  go_wp2_with fail
  refine (HG.out _).mono ?_
  rintro e1 w1 ⟨rfl, hb1⟩
  have hK1 := hK.more hb1
  clear a1r a1f a1c a1l a1z hK hb1
  go_wp2_with fail
  refine (rField hK1 hne x u e hu.out).mono ?_
  rintro e1 w2 ⟨rfl, hK2⟩
  go_wp2_with fail
  go_ret
  exact ⟨rfl, hK2⟩
theorem rAll (h : Kp w0 ((g, Rw l f R, t) :: L) w) (hne : ∀ x ∈ L, x.1 ≠ g) (hl : l.length ≤ 1000000000) :
    Calls Tryd.prog 61 #[.pointer (some ⟨g, 0, none⟩)] w fun e w' => e = .returned (.string ⟨l.toArray⟩) ∧ Kp w0 ((g, Rw [] f R, t) :: L) w' := by
  have hK := h
  have a1r := h.row; have a1f := h.free; have a1c := h.cell; have a1l := h.lt; have a1z := h.froz
  clear h
  go_enter Tryd.func61, Tryd.ntmps61
  go_wp2_with fail
  refine (clone_any l _ (by omega)).mono ?_
  rintro e1 w1 ⟨rfl, hb1⟩
  have hK1 := hK.more hb1
  have hfin : Kp w0 ((g, Rw [] f R, t) :: L) (w1.setRow g (Rw [] f R)) := hK1.set hne _
  clear a1r a1f a1c a1l a1z hK hb1
  have a1r := hK1.row; have a1f := hK1.free; have a1c := hK1.cell; have a1l := hK1.lt; have a1z := hK1.froz
  clear hK1
  go_wp2_with fail
  go_ret
  exact ⟨rfl, hfin⟩
theorem rWord (h : Kp w0 ((g, Rw l f R, t) :: L) w) (hne : ∀ x ∈ L, x.1 ≠ g) (hl : l.length ≤ 1000000000) :
    Calls Tryd.prog 59 #[.pointer (some ⟨g, 0, none⟩)] w fun e w' => e = .returned (.int .u16 (woV l)) ∧ Kp w0 ((g, Rw (woL l) (woF l f) R, t) :: L) w' := by
  have hK := h
  by_cases h2 : l.length < 2
  · have HV : Hid (woV l = 0 ∧ woL l = [] ∧ woF l f = true) := by
      rcases l with _ | ⟨a, _ | ⟨b, l⟩⟩
      · exact ⟨rfl, rfl, rfl⟩
      · exact ⟨rfl, rfl, rfl⟩
      · simp at h2; omega
    have a1r := h.row; have a1f := h.free; have a1c := h.cell; have a1l := h.lt; have a1z := h.froz
    clear h
    go_enter Tryd.func59, Tryd.ntmps59
    go_wp2_with fail
    refine (numReadWord_no l _ h2).mono ?_
    rintro e1 w1 ⟨rfl, hb1⟩
    have hK1 := hK.more hb1
    clear a1r a1f a1c a1l a1z hK hb1
    go_wp2_with fail
    refine (rFail hK1 hne).mono ?_
    rintro e1 w2 ⟨rfl, hK2⟩
    go_wp2_with fail
    go_ret
    exact ⟨by rw [HV.out.1]; rfl, by rw [HV.out.2.1, HV.out.2.2]; exact hK2⟩
  · obtain ⟨a, b, r, hr⟩ : ∃ a b r, l = a :: b :: r := by
      rcases l with _ | ⟨a, _ | ⟨b, l⟩⟩
      · simp at h2
      · simp at h2
      · exact ⟨_, _, _, rfl⟩
    have HV : Hid (woV l = (a.toNat : Int) * 256 + b.toNat ∧ woL l = l.drop 2 ∧ woF l f = f) := by rw [hr]; exact ⟨rfl, rfl, rfl⟩
    have ha := a.toNat_lt
    have hbb := b.toNat_lt
    have hw : IntKind.u16.wrap ((a.toNat : Int) * 256 + b.toNat) = (a.toNat : Int) * 256 + b.toNat := IntWalk.u16_in _ (by omega)
    have HR := Lib.hid hr
    clear hr
    have a1r := h.row; have a1f := h.free; have a1c := h.cell; have a1l := h.lt; have a1z := h.froz
    clear h
    go_enter Tryd.func59, Tryd.ntmps59
    go_wp2_with fail
    refine (numReadWord_yes l a b r _ HR.out (by omega)).mono ?_
    rintro e1 w1 ⟨rfl, hb1⟩
    have hK1 := hK.more hb1
    clear a1r a1f a1c a1l a1z hK hb1
    go_wp2_with fail
    refine (rDrop hK1 hne 2 (by omega) (by omega)).mono ?_
    rintro e1 w2 ⟨rfl, hK2⟩
    go_wp2_with fail
    go_ret
    exact ⟨by rw [HV.out.1]; rfl, by rw [HV.out.2.1, HV.out.2.2]; exact hK2⟩
end
end Go.Proofs.YtncgkkhpcgdcaaaDoor
