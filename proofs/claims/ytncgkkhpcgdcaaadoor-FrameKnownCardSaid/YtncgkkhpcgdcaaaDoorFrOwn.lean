/-
  A row of what is told: its cells, how it reads, the call's own one.
-/
import Derived.Test.YtncgkkhpcgdcaaaDoorFrMath
import Derived.Test.YtncgkkhpcgdcaaaDoorRdSubs
set_option linter.unusedSimpArgs false
set_option linter.unusedVariables false
namespace Go.Proofs.YtncgkkhpcgdcaaaDoor
open Go.RowKit
set_option maxRecDepth 100000
/-- The cells of what is told. -/
def TdC (p : Pk) (A : Option Addr) (n c : Nat) (e : Int) : Array Value := PkC p A n c ++ #[.int .i64 e]
section
variable {p : Pk} {A : Option Addr} {n c : Nat} {e : Int}
@[go_sem, simp] theorem TdC_size : (TdC p A n c e).size = 25 := by simp [TdC]
@[go_sem] theorem TdC_one : ones (TdC p A n c e) = true := by simp [TdC, ones, PkC, Value.oneCell']
@[go_sem] theorem TdC_ne : (TdC p A n c e = #[]) = False := by simp [TdC]
@[go_sem high] theorem TdC_24 : (TdC p A n c e)[24]? = some (.int .i64 e) := by unfold TdC; rw [Array.getElem?_append_right (by simp)]; simp
@[go_sem] theorem TdC_g24 (h : 24 < (TdC p A n c e).size) : (TdC p A n c e)[24]'h = .int .i64 e := Option.some.inj (by rw [← Array.getElem?_eq_getElem h, TdC_24])
@[go_sem] theorem TdC_g0 (h : 0 < (TdC p A n c e).size) : (TdC p A n c e)[0]'h = (PkC p A n c)[0]'(by simp) := by simp [TdC, PkC]
@[go_sem high] theorem TdC_0 : (TdC p A n c e)[0]? = (PkC p A n c)[0]? := by unfold TdC; rw [Array.getElem?_append_left (by simp)]
@[go_sem] theorem TdC_g1 (h : 1 < (TdC p A n c e).size) : (TdC p A n c e)[1]'h = (PkC p A n c)[1]'(by simp) := by simp [TdC, PkC]
@[go_sem high] theorem TdC_1 : (TdC p A n c e)[1]? = (PkC p A n c)[1]? := by unfold TdC; rw [Array.getElem?_append_left (by simp)]
@[go_sem] theorem TdC_g2 (h : 2 < (TdC p A n c e).size) : (TdC p A n c e)[2]'h = (PkC p A n c)[2]'(by simp) := by simp [TdC, PkC]
@[go_sem high] theorem TdC_2 : (TdC p A n c e)[2]? = (PkC p A n c)[2]? := by unfold TdC; rw [Array.getElem?_append_left (by simp)]
@[go_sem] theorem TdC_g3 (h : 3 < (TdC p A n c e).size) : (TdC p A n c e)[3]'h = (PkC p A n c)[3]'(by simp) := by simp [TdC, PkC]
@[go_sem high] theorem TdC_3 : (TdC p A n c e)[3]? = (PkC p A n c)[3]? := by unfold TdC; rw [Array.getElem?_append_left (by simp)]
@[go_sem] theorem TdC_g4 (h : 4 < (TdC p A n c e).size) : (TdC p A n c e)[4]'h = (PkC p A n c)[4]'(by simp) := by simp [TdC, PkC]
@[go_sem high] theorem TdC_4 : (TdC p A n c e)[4]? = (PkC p A n c)[4]? := by unfold TdC; rw [Array.getElem?_append_left (by simp)]
@[go_sem] theorem TdC_g5 (h : 5 < (TdC p A n c e).size) : (TdC p A n c e)[5]'h = (PkC p A n c)[5]'(by simp) := by simp [TdC, PkC]
@[go_sem high] theorem TdC_5 : (TdC p A n c e)[5]? = (PkC p A n c)[5]? := by unfold TdC; rw [Array.getElem?_append_left (by simp)]
@[go_sem] theorem TdC_g6 (h : 6 < (TdC p A n c e).size) : (TdC p A n c e)[6]'h = (PkC p A n c)[6]'(by simp) := by simp [TdC, PkC]
@[go_sem high] theorem TdC_6 : (TdC p A n c e)[6]? = (PkC p A n c)[6]? := by unfold TdC; rw [Array.getElem?_append_left (by simp)]
@[go_sem] theorem TdC_g7 (h : 7 < (TdC p A n c e).size) : (TdC p A n c e)[7]'h = (PkC p A n c)[7]'(by simp) := by simp [TdC, PkC]
@[go_sem high] theorem TdC_7 : (TdC p A n c e)[7]? = (PkC p A n c)[7]? := by unfold TdC; rw [Array.getElem?_append_left (by simp)]
@[go_sem] theorem TdC_g8 (h : 8 < (TdC p A n c e).size) : (TdC p A n c e)[8]'h = (PkC p A n c)[8]'(by simp) := by simp [TdC, PkC]
@[go_sem high] theorem TdC_8 : (TdC p A n c e)[8]? = (PkC p A n c)[8]? := by unfold TdC; rw [Array.getElem?_append_left (by simp)]
@[go_sem] theorem TdC_g9 (h : 9 < (TdC p A n c e).size) : (TdC p A n c e)[9]'h = (PkC p A n c)[9]'(by simp) := by simp [TdC, PkC]
@[go_sem high] theorem TdC_9 : (TdC p A n c e)[9]? = (PkC p A n c)[9]? := by unfold TdC; rw [Array.getElem?_append_left (by simp)]
@[go_sem] theorem TdC_g10 (h : 10 < (TdC p A n c e).size) : (TdC p A n c e)[10]'h = (PkC p A n c)[10]'(by simp) := by simp [TdC, PkC]
@[go_sem high] theorem TdC_10 : (TdC p A n c e)[10]? = (PkC p A n c)[10]? := by unfold TdC; rw [Array.getElem?_append_left (by simp)]
@[go_sem] theorem TdC_g11 (h : 11 < (TdC p A n c e).size) : (TdC p A n c e)[11]'h = (PkC p A n c)[11]'(by simp) := by simp [TdC, PkC]
@[go_sem high] theorem TdC_11 : (TdC p A n c e)[11]? = (PkC p A n c)[11]? := by unfold TdC; rw [Array.getElem?_append_left (by simp)]
@[go_sem] theorem TdC_g12 (h : 12 < (TdC p A n c e).size) : (TdC p A n c e)[12]'h = (PkC p A n c)[12]'(by simp) := by simp [TdC, PkC]
@[go_sem high] theorem TdC_12 : (TdC p A n c e)[12]? = (PkC p A n c)[12]? := by unfold TdC; rw [Array.getElem?_append_left (by simp)]
@[go_sem] theorem TdC_g13 (h : 13 < (TdC p A n c e).size) : (TdC p A n c e)[13]'h = (PkC p A n c)[13]'(by simp) := by simp [TdC, PkC]
@[go_sem high] theorem TdC_13 : (TdC p A n c e)[13]? = (PkC p A n c)[13]? := by unfold TdC; rw [Array.getElem?_append_left (by simp)]
@[go_sem] theorem TdC_g14 (h : 14 < (TdC p A n c e).size) : (TdC p A n c e)[14]'h = (PkC p A n c)[14]'(by simp) := by simp [TdC, PkC]
@[go_sem high] theorem TdC_14 : (TdC p A n c e)[14]? = (PkC p A n c)[14]? := by unfold TdC; rw [Array.getElem?_append_left (by simp)]
@[go_sem] theorem TdC_g15 (h : 15 < (TdC p A n c e).size) : (TdC p A n c e)[15]'h = (PkC p A n c)[15]'(by simp) := by simp [TdC, PkC]
@[go_sem high] theorem TdC_15 : (TdC p A n c e)[15]? = (PkC p A n c)[15]? := by unfold TdC; rw [Array.getElem?_append_left (by simp)]
@[go_sem] theorem TdC_g16 (h : 16 < (TdC p A n c e).size) : (TdC p A n c e)[16]'h = (PkC p A n c)[16]'(by simp) := by simp [TdC, PkC]
@[go_sem high] theorem TdC_16 : (TdC p A n c e)[16]? = (PkC p A n c)[16]? := by unfold TdC; rw [Array.getElem?_append_left (by simp)]
@[go_sem] theorem TdC_g17 (h : 17 < (TdC p A n c e).size) : (TdC p A n c e)[17]'h = (PkC p A n c)[17]'(by simp) := by simp [TdC, PkC]
@[go_sem high] theorem TdC_17 : (TdC p A n c e)[17]? = (PkC p A n c)[17]? := by unfold TdC; rw [Array.getElem?_append_left (by simp)]
@[go_sem] theorem TdC_g18 (h : 18 < (TdC p A n c e).size) : (TdC p A n c e)[18]'h = (PkC p A n c)[18]'(by simp) := by simp [TdC, PkC]
@[go_sem high] theorem TdC_18 : (TdC p A n c e)[18]? = (PkC p A n c)[18]? := by unfold TdC; rw [Array.getElem?_append_left (by simp)]
@[go_sem] theorem TdC_g19 (h : 19 < (TdC p A n c e).size) : (TdC p A n c e)[19]'h = (PkC p A n c)[19]'(by simp) := by simp [TdC, PkC]
@[go_sem high] theorem TdC_19 : (TdC p A n c e)[19]? = (PkC p A n c)[19]? := by unfold TdC; rw [Array.getElem?_append_left (by simp)]
@[go_sem] theorem TdC_g20 (h : 20 < (TdC p A n c e).size) : (TdC p A n c e)[20]'h = (PkC p A n c)[20]'(by simp) := by simp [TdC, PkC]
@[go_sem high] theorem TdC_20 : (TdC p A n c e)[20]? = (PkC p A n c)[20]? := by unfold TdC; rw [Array.getElem?_append_left (by simp)]
@[go_sem] theorem TdC_g21 (h : 21 < (TdC p A n c e).size) : (TdC p A n c e)[21]'h = (PkC p A n c)[21]'(by simp) := by simp [TdC, PkC]
@[go_sem high] theorem TdC_21 : (TdC p A n c e)[21]? = (PkC p A n c)[21]? := by unfold TdC; rw [Array.getElem?_append_left (by simp)]
@[go_sem] theorem TdC_g22 (h : 22 < (TdC p A n c e).size) : (TdC p A n c e)[22]'h = (PkC p A n c)[22]'(by simp) := by simp [TdC, PkC]
@[go_sem high] theorem TdC_22 : (TdC p A n c e)[22]? = (PkC p A n c)[22]? := by unfold TdC; rw [Array.getElem?_append_left (by simp)]
@[go_sem] theorem TdC_g23 (h : 23 < (TdC p A n c e).size) : (TdC p A n c e)[23]'h = (PkC p A n c)[23]'(by simp) := by simp [TdC, PkC]
@[go_sem high] theorem TdC_23 : (TdC p A n c e)[23]? = (PkC p A n c)[23]? := by unfold TdC; rw [Array.getElem?_append_left (by simp)]
@[go_sem] theorem TdC_head : (TdC p A n c e).extract 0 24 = PkC p A n c := by simp [TdC, PkC]
@[go_sem] theorem TdC_all : (TdC p A n c e).extract 0 25 = TdC p A n c e := by simp [TdC, PkC]
theorem TdC_list : (TdC p A n c e).toList = (PkC p A n c).toList ++ [.int .i64 e] := by simp [TdC]
theorem TdC_onec : ∀ u ∈ (TdC p A n c e).toList, u.oneCell' = true := by
  intro u hu
  have h := TdC_one (p := p) (A := A) (n := n) (c := c) (e := e)
  unfold ones at h
  rw [Array.all_eq_true_iff_forall_mem] at h
  exact h u (by simpa using hu)
end
@[go_sem] theorem TdC_fold (x_ty : Int) (x_dup : Bool) (x_qos : Int) (x_ret : Bool) (x_id : Int) (x_topic : List UInt8) (x_load : List UInt8) (x_level : Int) (x_clean : Bool) (x_keep : Int) (x_client : List UInt8) (x_hasWill : Bool) (x_wt : List UInt8) (x_wl : List UInt8) (x_wq : Int) (x_wr : Bool) (x_hasUser : Bool) (x_hasPass : Bool) (x_user : List UInt8) (x_pass : List UInt8) (x_present : Bool) (x_code : Int) (x_codes : List UInt8) (A : Option Addr) (n c : Nat) (e : Int) : (#[.int .u8 x_ty, .bool x_dup, .int .u8 x_qos, .bool x_ret, .int .u16 x_id, .string ⟨x_topic.toArray⟩, .string ⟨x_load.toArray⟩, .int .u8 x_level, .bool x_clean, .int .u16 x_keep, .string ⟨x_client.toArray⟩, .bool x_hasWill, .string ⟨x_wt.toArray⟩, .string ⟨x_wl.toArray⟩, .int .u8 x_wq, .bool x_wr, .bool x_hasUser, .bool x_hasPass, .string ⟨x_user.toArray⟩, .string ⟨x_pass.toArray⟩, .bool x_present, .int .u8 x_code, .slice A n c, .string ⟨x_codes.toArray⟩, .int .i64 e] : Array Value) = TdC ⟨x_ty, x_dup, x_qos, x_ret, x_id, x_topic, x_load, x_level, x_clean, x_keep, x_client, x_hasWill, x_wt, x_wl, x_wq, x_wr, x_hasUser, x_hasPass, x_user, x_pass, x_present, x_code, x_codes⟩ A n c e := by simp [TdC, PkC]
@[go_sem] theorem TdC_app {p : Pk} {A : Option Addr} {n c : Nat} {e : Int} : (PkC p A n c ++ #[.int .i64 e] : Array Value) = TdC p A n c e := rfl
@[go_sem] theorem TdC_push {p : Pk} {A : Option Addr} {n c : Nat} {e : Int} : ((PkC p A n c).push (.int .i64 e) : Array Value) = TdC p A n c e := by simp [TdC]
@[go_sem] theorem foldl_TdC (p q : Pk) (A B : Option Addr) (n c m d : Nat) (e f : Int) : Array.foldl (fun (cs : Array Value) (x : Value × Nat) => cs.setIfInBounds x.snd x.fst) (TdC p A n c e) (TdC q B m d f).zipIdx 0 25 = TdC q B m d f := by simp [TdC, PkC]
@[go_sem] theorem foldl_TdPk (p q : Pk) (A B : Option Addr) (n c m d : Nat) (e : Int) : Array.foldl (fun (cs : Array Value) (x : Value × Nat) => cs.setIfInBounds x.snd x.fst) (TdC p A n c e) (PkC q B m d).zipIdx 0 24 = TdC q B m d e := by simp [TdC, PkC]
@[go_sem] theorem TdC_s24 (p : Pk) (A : Option Addr) (n c : Nat) (e f : Int) : (TdC p A n c e).setIfInBounds 24 (.int .i64 f) = TdC p A n c f := by simp [TdC, PkC]
/-- Two in a row. -/
def Td2 (p : Pk) (A : Option Addr) (n c : Nat) (e : Int) (q : Pk) (B : Option Addr) (m d : Nat) (f : Int) : Array Value := TdC p A n c e ++ TdC q B m d f
@[go_sem] theorem fold_td0 (p : Pk) (A : Option Addr) (n c : Nat) (e : Int) : Array.foldl (fun (cs : Array Value) (x : Value × Nat) => cs.setIfInBounds x.snd x.fst)
    #[.int .u8 0, .bool false, .int .u8 0, .bool false, .int .u16 0, .string ⟨#[]⟩, .string ⟨#[]⟩, .int .u8 0, .bool false, .int .u16 0, .string ⟨#[]⟩, .bool false, .string ⟨#[]⟩, .string ⟨#[]⟩, .int .u8 0, .bool false, .bool false, .bool false, .string ⟨#[]⟩, .string ⟨#[]⟩, .bool false, .int .u8 0, .slice none 0 0, .string ⟨#[]⟩, .int .i64 0,
      .int .u8 0, .bool false, .int .u8 0, .bool false, .int .u16 0, .string ⟨#[]⟩, .string ⟨#[]⟩, .int .u8 0, .bool false, .int .u16 0, .string ⟨#[]⟩, .bool false, .string ⟨#[]⟩, .string ⟨#[]⟩, .int .u8 0, .bool false, .bool false, .bool false, .string ⟨#[]⟩, .string ⟨#[]⟩, .bool false, .int .u8 0, .slice none 0 0, .string ⟨#[]⟩, .int .i64 0]
    (TdC p A n c e).zipIdx 0 25 = Td2 p A n c e zPk none 0 0 0 := by simp [Td2, TdC, PkC, zPk]
@[go_sem] theorem fold_td1 (p q r : Pk) (A B C : Option Addr) (n c m d k l : Nat) (e f h : Int) : Array.foldl (fun (cs : Array Value) (x : Value × Nat) => cs.setIfInBounds (25 + x.snd) x.fst) (Td2 p A n c e r C k l h) (TdC q B m d f).zipIdx 0 25 = Td2 p A n c e q B m d f := by simp [Td2, TdC, PkC]
@[go_sem, simp] theorem Td2_size {p : Pk} {A : Option Addr} {n c : Nat} {e : Int} {q : Pk} {B : Option Addr} {m d : Nat} {f : Int} : (Td2 p A n c e q B m d f).size = 50 := by simp [Td2]
@[go_sem] theorem Td2_one {p : Pk} {A : Option Addr} {n c : Nat} {e : Int} {q : Pk} {B : Option Addr} {m d : Nat} {f : Int} : ones (Td2 p A n c e q B m d f) = true := by simp [Td2, TdC, ones, PkC, Value.oneCell']
/-- Cells that read as a row of what is told. -/
def RdD (w : World) (L : List Value) (ts : List TX) : Prop :=
  L.length = ts.length * 25 ∧ ∀ j x, ts[j]? = some x → ∃ A' n' c', (L.drop (j * 25)).take 25 = (TdC x.1.1 A' n' c' x.2).toList ∧ Subs w A' n' x.1.2 ∧ (A' = none → c' = 0) ∧ SubT w A' n'
/-- What a change leaves of the blocks of Subs: all. -/
def KeepS (w w' : World) : Prop := w.heap.size ≤ w'.heap.size ∧ ∀ (b : Nat) (cur : Array Value), w.heap[b]? = some (.cells cur 57 (0, 0)) → w'.heap[b]? = some (.cells cur 57 (0, 0))
theorem KeepS.of_below {w w' : World} (hb : Below w.heap.size w w') : KeepS w w' := ⟨hb.size, fun b cur h => (hb.block b (Array.getElem?_eq_some_iff.1 h).1).trans h⟩
theorem subT_keep {w w' : World} {A : Option Addr} {n : Nat} (h : SubT w A n) (hk : KeepS w w') : SubT w' A n := fun hn b o e => by
  obtain ⟨cur, hc⟩ := h hn b o e
  exact ⟨cur, hk.2 b cur hc⟩
theorem subs_keep {w w' : World} {A : Option Addr} {n : Nat} {xs : List (List UInt8 × Int)} (h : Subs w A n xs) (ht : SubT w A n) (hk : KeepS w w') : Subs w' A n xs :=
  ⟨h.1, fun hn => by
    obtain ⟨b, off, e, hlt, hc⟩ := h.2 hn
    obtain ⟨cur, hcur⟩ := ht hn b off e
    have hr : rowAt w' b = rowAt w b := by rw [rowAt_blk hcur, rowAt_blk (hk.2 b cur hcur)]
    exact ⟨b, off, e, Nat.lt_of_lt_of_le hlt hk.1, fun j x hx => by rw [hr]; exact hc j x hx⟩⟩
section
variable {w w' : World} {B : Nat} {L M : List Value} {ts us : List TX}
theorem RdD.nil : RdD w [] [] := ⟨rfl, fun j x hx => by simp at hx⟩
theorem RdD.keep (h : RdD w L ts) (hk : KeepS w w') : RdD w' L ts :=
  ⟨h.1, fun j x hx => by
    obtain ⟨A', n', c', h1, h2, h3, h4⟩ := h.2 j x hx
    exact ⟨A', n', c', h1, subs_keep h2 h4 hk, h3, subT_keep h4 hk⟩⟩
theorem RdD.app (h : RdD w L ts) (k : RdD w M us) : RdD w (L ++ M) (ts ++ us) := by
  refine ⟨by rw [List.length_append, List.length_append, h.1, k.1]; omega, fun j x hx => ?_⟩
  by_cases hj : j < ts.length
  · rw [List.getElem?_append_left hj] at hx
    obtain ⟨A', n', c', h1, h2⟩ := h.2 j x hx
    refine ⟨A', n', c', ?_, h2⟩
    rw [List.drop_append_of_le_length (by rw [h.1]; omega), List.take_append_of_le_length (by rw [List.length_drop, h.1]; omega), h1]
  · rw [List.getElem?_append_right (by omega)] at hx
    obtain ⟨A', n', c', h1, h2⟩ := k.2 _ x hx
    refine ⟨A', n', c', ?_, h2⟩
    rw [List.drop_append, List.drop_eq_nil_of_le (by rw [h.1]; omega), List.nil_append, h.1, ← Nat.sub_mul, h1]
theorem RdD.ones (h : RdD w L ts) : ∀ u ∈ L, u.oneCell' = true := by
  intro u hu
  obtain ⟨i, hi, rfl⟩ := List.mem_iff_getElem.1 hu
  have hl := h.1
  have hk : i / 25 < ts.length := by omega
  obtain ⟨A', n', c', h1, _⟩ := h.2 (i / 25) ts[i / 25] (List.getElem?_eq_getElem hk)
  refine TdC_onec (p := ts[i / 25].1.1) (A := A') (n := n') (c := c') (e := ts[i / 25].2) _ ?_
  rw [← h1]
  refine List.mem_iff_getElem?.2 ⟨i % 25, ?_⟩
  rw [List.getElem?_take_of_lt (by omega), List.getElem?_drop, show i / 25 * 25 + i % 25 = i by omega]
  exact List.getElem?_eq_getElem hi
end
/-- A slice reads as a row of what is told. -/
def Tds (w : World) (A : Option Addr) (n : Nat) (ts : List TX) : Prop :=
  ts.length = n ∧ (0 < n → ∃ b off, A = some ⟨b, off, none⟩ ∧ b < w.heap.size ∧ ∀ j x, ts[j]? = some x → off + j * 25 + 25 ≤ (rowAt w b).size ∧
    ∃ A' n' c', (rowAt w b).extract (off + j * 25) (off + j * 25 + 25) = TdC x.1.1 A' n' c' x.2 ∧ Subs w A' n' x.1.2 ∧ (A' = none → c' = 0) ∧ SubT w A' n')
section
variable {w w' : World} {A : Option Addr} {n : Nat} {ts : List TX}
theorem Tds.len (h : Tds w A n ts) : ts.length = n := h.1
theorem Tds.nil (A : Option Addr) : Tds w A 0 [] := ⟨rfl, fun h => by omega⟩
theorem Tds.keep (h : Tds w A n ts) (hk : KeepS w w') (hr : ∀ b o, 0 < n → A = some ⟨b, o, none⟩ → b < w.heap.size → w'.heap[b]? = w.heap[b]?) : Tds w' A n ts :=
  ⟨h.1, fun hn => by
    obtain ⟨b, off, e, hlt, hc⟩ := h.2 hn
    have h9 : rowAt w' b = rowAt w b := by unfold rowAt; rw [hr b off hn e hlt]
    refine ⟨b, off, e, Nat.lt_of_lt_of_le hlt hk.1, fun j x hx => ?_⟩
    obtain ⟨h1, A', n', c', h2, h3, h4, h5⟩ := hc j x hx
    rw [h9]
    exact ⟨h1, A', n', c', h2, subs_keep h3 h5 hk, h4, subT_keep h5 hk⟩⟩
theorem Tds.below (h : Tds w A n ts) (hb : Below w.heap.size w w') : Tds w' A n ts := h.keep (.of_below hb) (fun b _ _ _ hlt => hb.block b hlt)
/-- One of a row. -/
theorem Tds.at_ (h : Tds w A n ts) {k : Nat} (hk : k < n) : ∃ b off x A' n' c', A = some ⟨b, off, none⟩ ∧ ts[k]? = some x ∧ b < w.heap.size ∧ off + k * 25 + 25 ≤ (rowAt w b).size ∧
    (rowAt w b).extract (off + k * 25) (off + k * 25 + 24) = PkC x.1.1 A' n' c' ∧ (rowAt w b)[off + k * 25 + 24]? = some (.int .i64 x.2) ∧ w.cell? ⟨b, off + k * 25 + 24, none⟩ = some (.int .i64 x.2) ∧ Subs w A' n' x.1.2 ∧ (A' = none → c' = 0) ∧ SubT w A' n' := by
  obtain ⟨b, off, e, hlt, hc⟩ := h.2 (by omega)
  have hkl : k < ts.length := by rw [h.1]; exact hk
  obtain ⟨h1, A', n', c', h2, h3, h4, h5⟩ := hc k ts[k] (List.getElem?_eq_getElem hkl)
  have h6 : (rowAt w b)[off + k * 25 + 24]? = some (.int .i64 ts[k].2) := by
    have := TdC_24 (p := ts[k].1.1) (A := A') (n := n') (c := c') (e := ts[k].2)
    rw [← h2, Array.getElem?_extract, if_pos (by omega)] at this
    exact this
  refine ⟨b, off, ts[k], A', n', c', e, List.getElem?_eq_getElem hkl, hlt, h1, ?_, h6, ?_, h3, h4, h5⟩
  · rw [← TdC_head (p := ts[k].1.1) (A := A') (n := n') (c := c') (e := ts[k].2), ← h2, Array.extract_extract]
    congr 1
    omega
  · rw [rowAt_cell (by omega)]
    exact h6
theorem Tds.rd (h : Tds w A n ts) : 0 < n → ∃ b off L, A = some ⟨b, off, none⟩ ∧ RdD w L ts ∧ ∀ j u, L[j]? = some u → w.cell? ⟨b, off + j, none⟩ = some u := by
  obtain ⟨rfl, h⟩ := h
  intro hn
  obtain ⟨b, off, e, hlt, hc⟩ := h hn
  have hsz : off + ts.length * 25 ≤ (rowAt w b).size := by
    have := (hc (ts.length - 1) ts[ts.length - 1] (List.getElem?_eq_getElem (by omega))).1
    omega
  refine ⟨b, off, ((rowAt w b).extract off (off + ts.length * 25)).toList, e, ⟨by simp; omega, fun j x hx => ?_⟩, fun j u hu => ?_⟩
  · obtain ⟨h1, A', n', c', h2, h3, h4, h5⟩ := hc j x hx
    have hj : j < ts.length := (List.getElem?_eq_some_iff.1 hx).1
    refine ⟨A', n', c', ?_, h3, h4, h5⟩
    rw [← h2]
    simp only [Array.toList_extract, List.extract_eq_take_drop, List.drop_take, List.take_take, List.drop_drop]
    congr 1
    omega
  · have hj : j < ts.length * 25 := by
      have := (List.getElem?_eq_some_iff.1 hu).1
      simp at this
      omega
    rw [rowAt_cell (by omega), ← hu, Array.getElem?_toList, Array.getElem?_extract, if_pos (by omega)]
/-- From one on. -/
theorem Tds.from_ {b off : Nat} (h : Tds w (some ⟨b, off, none⟩) n ts) (k : Nat) (hk : k ≤ n) : Tds w (some ⟨b, off + k * 25, none⟩) (n - k) (ts.drop k) := by
  refine ⟨by rw [List.length_drop, h.1], fun hn => ?_⟩
  obtain ⟨b', off', e, hlt, hc⟩ := h.2 (by omega)
  cases e
  refine ⟨b, off + k * 25, rfl, hlt, fun j x hx => ?_⟩
  rw [List.getElem?_drop] at hx
  obtain ⟨h1, A', n', c', h2, h3⟩ := hc (k + j) x hx
  refine ⟨by omega, A', n', c', ?_, h3⟩
  rw [← h2]
  congr 1 <;> omega
/-- A block that has just one. -/
theorem tds_one {g : Nat} {p : Pk} {A : Option Addr} {n c : Nat} {xs : List (List UInt8 × Int)} {e : Int} (hr : rowAt w g = TdC p A n c e) (hg : g < w.heap.size) (hS : Subs w A n xs) (hc : A = none → c = 0) (ht : SubT w A n) : Tds w (some ⟨g, 0, none⟩) 1 [((p, xs), e)] := by
  refine ⟨rfl, fun _ => ⟨g, 0, rfl, hg, fun j x hx => ?_⟩⟩
  match j, hx with
  | 0, hx =>
    cases hx
    rw [hr]
    exact ⟨by simp, A, n, c, by simp [TdC_all], hS, hc, ht⟩
  | j + 1, hx => simp at hx
end
theorem tds_two {w : World} {g : Nat} {p q : Pk} {A B : Option Addr} {n c m d : Nat} {xs ys : List (List UInt8 × Int)} {e f : Int} (h : rowAt w g = Td2 p A n c e q B m d f) (hg : g < w.heap.size) (hs : Subs w A n xs) (hc : A = none → c = 0) (ht : SubT w A n) (ks : Subs w B m ys) (kc : B = none → d = 0) (kt : SubT w B m) : Tds w (some ⟨g, 0, none⟩) 2 [((p, xs), e), ((q, ys), f)] := by
  refine ⟨rfl, fun _ => ⟨g, 0, rfl, hg, fun j x hx => ?_⟩⟩
  match j, hx with
  | 0, hx =>
    cases hx
    rw [h]
    exact ⟨by simp [Td2], A, n, c, by simp [Td2, TdC, PkC], hs, hc, ht⟩
  | 1, hx =>
    cases hx
    rw [h]
    exact ⟨by simp [Td2], B, m, d, by simp [Td2, TdC, PkC], ks, kc, kt⟩
  | j + 2, hx => simp at hx
theorem subT_nil (w : World) (A : Option Addr) : SubT w A 0 := fun h => absurd h (Nat.lt_irrefl 0)
/-- The call's own row of what is told. -/
def OwnD (B : Nat) (wr : World) (v : Value) (ts : List TX) : Prop :=
  ∃ L, wr.ownsRow B 40 25 v ts.length L ∧ RdD wr L ts ∧ B ≤ wr.heap.size
section
variable {B B' : Nat} {wr w' : World} {v : Value} {ts : List TX}
theorem OwnD.nil (hB : B ≤ wr.heap.size) : OwnD B wr (.slice none 0 0) [] := ⟨[], World.ownsRow_nil _ _ _ _, RdD.nil, hB⟩
theorem OwnD.more (h : OwnD B wr v ts) (hb : Below wr.heap.size wr w') : OwnD B w' v ts := by
  obtain ⟨L, h1, h2, h4⟩ := h
  exact ⟨L, own_below h1 hb, h2.keep (.of_below hb), Nat.le_trans h4 hb.size⟩
theorem OwnD.size (h : OwnD B wr v ts) : B ≤ wr.heap.size := by obtain ⟨L, h1, h2, h4⟩ := h; exact h4
theorem OwnD.base (h : OwnD B wr v ts) (hB : B' ≤ B) : OwnD B' wr v ts := by
  obtain ⟨L, h1, h2, h4⟩ := h
  refine ⟨L, ⟨h1.1, ?_⟩, h2, Nat.le_trans hB h4⟩
  rcases h1.2 with h5 | ⟨g, cap, cur, e, h5, h6, h7⟩
  · exact Or.inl h5
  · exact Or.inr ⟨g, cap, cur, e, Nat.le_trans hB h5, h6, h7⟩
/-- What changes neither a block of Subs nor one of what is told. -/
def KeepD (w w' : World) : Prop := KeepS w w' ∧ ∀ (b : Nat) (cur : Array Value), w.heap[b]? = some (.cells cur 40 (0, 0)) → w'.heap[b]? = some (.cells cur 40 (0, 0))
theorem OwnD.keep (h : OwnD B wr v ts) (hk : KeepD wr w') : OwnD B w' v ts := by
  obtain ⟨L, h1, h2, h4⟩ := h
  refine ⟨L, ⟨h1.1, ?_⟩, h2.keep hk.1, Nat.le_trans h4 hk.1.1⟩
  rcases h1.2 with h5 | ⟨g, cap, cur, e, h5, h6, h7⟩
  · exact Or.inl h5
  · exact Or.inr ⟨g, cap, cur, e, h5, hk.2 g cur h6, h7⟩
theorem OwnD.tds (h : OwnD B wr v ts) : ∃ A c, v = .slice A ts.length c ∧ Tds wr A ts.length ts ∧ (A = none → c = 0) ∧ (∀ b o, A = some ⟨b, o, none⟩ → B ≤ b ∧ ∃ cur, wr.heap[b]? = some (.cells cur 40 (0, 0))) ∧ (A = none ∨ ∃ b, A = some ⟨b, 0, none⟩) := by
  obtain ⟨L, h1, h2, _⟩ := h
  rcases h1.2 with ⟨rfl, hn⟩ | ⟨g, cap, cur, rfl, hB, hh, hc, _, hsz, ht⟩
  · exact ⟨none, 0, by rw [hn], ⟨rfl, fun h => by omega⟩, fun _ => rfl, fun b o e => (by cases e), Or.inl rfl⟩
  · refine ⟨some ⟨g, 0, none⟩, cap, rfl, ⟨rfl, fun _ => ⟨g, 0, rfl, (Array.getElem?_eq_some_iff.1 hh).1, fun j x hx => ?_⟩⟩, fun e => (by cases e), fun b o e => by cases e; exact ⟨hB, cur, hh⟩, Or.inr ⟨g, rfl⟩⟩
    have hj : j < ts.length := (List.getElem?_eq_some_iff.1 hx).1
    rw [rowAt_blk hh]
    refine ⟨by omega, ?_⟩
    obtain ⟨A', n', c', h3, h4, h5, h6⟩ := h2.2 j x hx
    refine ⟨A', n', c', ?_, h4, h5, h6⟩
    rw [← ht, List.drop_take, List.take_take, show min 25 (ts.length * 25 - j * 25) = 25 by omega] at h3
    apply Array.ext'
    rw [← h3, Nat.zero_add, Array.toList_extract, List.extract_eq_take_drop]
    simp
theorem OwnD.tds' {A : Option Addr} {n c : Nat} (h : OwnD B wr (.slice A n c) ts) (hn : ts.length = n) : Tds wr A n ts ∧ (A = none → c = 0) ∧ (A = none ∨ ∃ b o, A = some ⟨b, o, none⟩) := by
  obtain ⟨A2, c2, e, h1, h2, _, h3⟩ := h.tds
  injection e with e1 e2 e3
  subst e1 e3 hn
  refine ⟨h1, h2, ?_⟩
  rcases h3 with h3 | ⟨b, h3⟩
  · exact Or.inl h3
  · exact Or.inr ⟨b, 0, h3⟩
theorem ownd_no {w : World} {b n : Nat} {L : List Value} (h : w.ownsRow B 40 25 v n L) {cur : Array Value} {t : TypeId} (hb : w.heap[b]? = some (.cells cur t (0, 0))) (ht : t ≠ 40) : some b ≠ v.ownBlock := by
  intro e
  rcases h.2 with ⟨rfl, hn⟩ | ⟨g, cap, cur2, rfl, hB, hh, _⟩
  · cases e
  · obtain rfl : b = g := by simpa [Value.ownBlock] using e
    rw [hh] at hb
    injection hb with h1
    injection h1 with _ h2 _
    exact ht h2.symm
end
theorem td_info : (Tryd.prog.info? 40).map (fun i => (i.zero.map fun z => z.cells.size, i.size)) = some (some 25, 25) := by kernel_rfl
theorem td_bytes : (Tryd.prog.info? 40).map (fun i => decide (i.bytes ≤ 1000)) = some true := by kernel_rfl
/-- What an append onto the own row changes: nothing but it. -/
theorem grown_keep {B : Nat} {w w' : World} {v : Value} {n : Nat} {L : List Value} (h : w.ownsRow B 40 25 v n L) (hgr : w.grownBy w' v.ownBlock) {b : Nat} {cur : Array Value} {t : TypeId} (hb : w.heap[b]? = some (.cells cur t (0, 0))) (ht : t ≠ 40) : w'.heap[b]? = some (.cells cur t (0, 0)) :=
  (hgr.block b (Array.getElem?_eq_some_iff.1 hb).1 (ownd_no h hb ht)).trans hb
theorem grown_keepS {B : Nat} {w w' : World} {v : Value} {n : Nat} {L : List Value} (h : w.ownsRow B 40 25 v n L) (hgr : w.grownBy w' v.ownBlock) : KeepS w w' :=
  ⟨hgr.size, fun _ _ hb => grown_keep h hgr hb (by decide)⟩
theorem wpList_dapp {ops : Array Oper} {rest : List Oper} {o : Oper} {a : Act} {Q : Exit → Act → World → Prop} {B : Nat} {wr : World} {v : Value} {ts : List TX} (hgd : o.guard = none) (s x : Operand)
    (ho : o.op = .call { callee := .builtin .append, args := #[s, x], argTypes := #[37, 37] })
    (hs : a.eval s = v) (hb : OwnD B wr v ts) (A : Option Addr) (n c : Nat) (us : List TX) (hx : a.eval x = .slice A n c) (hI : Tds wr A n us) (hc0 : A = none → c = 0)
    (hl : ts.length + n ≤ 1000000) (hA : A = none ∨ ∃ b o, A = some ⟨b, o, none⟩)
    (h : ∀ v' w', OwnD B w' v' (ts ++ us) → wr.grownBy w' v.ownBlock → (∃ L, wr.ownsRow B 40 25 v ts.length L) → wpList Tryd.prog ops Q rest (a.put o.dst v') w') : wpList Tryd.prog ops Q (o :: rest) a wr := by
  obtain ⟨i, hi, hz1⟩ := Option.map_eq_some_iff.1 td_info
  have hz4 : i.bytes ≤ 1000 := by
    have := td_bytes
    rw [hi] at this
    simpa using this
  obtain ⟨hz2, hz3⟩ := Prod.mk.inj hz1
  obtain ⟨z, hz, hzs⟩ := Option.map_eq_some_iff.1 hz2
  obtain ⟨L, hown, hrd, hB⟩ := hb
  have hrdI := hI.rd
  obtain ⟨rfl, _⟩ := hI
  rcases Nat.eq_zero_or_pos us.length with h0 | h0
  · obtain rfl : us = [] := List.eq_nil_of_length_eq_zero h0
    rcases hA with rfl | ⟨b, o, rfl⟩
    · obtain rfl := hc0 rfl
      exact wpList_append_own_none hgd s x _ ho B _ i 25 Tryd.underlying37 hi v ts.length _ hs hown hx (h v wr ⟨L, by simpa using hown, by simpa using hrd, hB⟩ (World.grownBy.refl wr _) ⟨L, hown⟩)
    · refine wpList_append_own wr hgd s x _ ho B _ i z 25 i.bytes Tryd.underlying37 hi hz hz3 rfl hzs (by decide) v ts.length _ hs hown ⟨b, o, none⟩ 0 c [] hx rfl (fun j u hu => by simp at hu) (fun u hu => by cases hu) (by unfold maxLen; omega) (by simp only [List.length_nil] at hl; exact Nat.le_trans (Nat.mul_le_mul (show ts.length + 0 ≤ 1000000 by omega) hz4) (by decide)) hB ?_
      intro v' w' hown' hgr _
      refine h v' w' ⟨L, by simpa using hown', ?_, Nat.le_trans hB hgr.size⟩ hgr ⟨L, hown⟩
      rw [List.append_nil]
      exact hrd.keep (grown_keepS hown hgr)
  · obtain ⟨b, off, M, rfl, hM, hcell⟩ := hrdI h0
    refine wpList_append_own wr hgd s x _ ho B _ i z 25 i.bytes Tryd.underlying37 hi hz hz3 rfl hzs (by decide) v ts.length _ hs hown ⟨b, off, none⟩ us.length c M hx hM.1 ?_ hM.ones (by unfold maxLen; omega) (Nat.le_trans (Nat.mul_le_mul hl hz4) (by decide)) hB ?_
    · intro j u hu
      have hadd : (⟨b, off, none⟩ : Addr).add j = ⟨b, off + j, none⟩ := by unfold Addr.add; split <;> simp_all
      rw [hadd]
      exact hcell j u hu
    · intro v' w' hown' hgr _
      refine h v' w' ⟨L ++ M, by rw [List.length_append]; exact hown', (hrd.app hM).keep (grown_keepS hown hgr), Nat.le_trans hB hgr.size⟩ hgr ⟨L, hown⟩
end Go.Proofs.YtncgkkhpcgdcaaaDoor
