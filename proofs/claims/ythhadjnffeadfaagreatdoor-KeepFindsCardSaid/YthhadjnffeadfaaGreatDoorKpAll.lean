/-
  keep: Find, All of the program; of a nil one.
-/
import Derived.Test.YthhadjnffeadfaaGreatDoorKpList
import Derived.Test.YthhadjnffeadfaaGreatDoorTpLaw
set_option linter.unusedSimpArgs false
set_option linter.unusedVariables false
namespace Go.Proofs.YthhadjnffeadfaaGreatDoor
open Go.RowKit Go.Maps
section
variable {w w' : World} {t : Nat} {F : Nat → Prop} {L : List Ms}
theorem OwnM.wider {B B' : Nat} {w1 wr : World} {v : Value} (h : OwnM B' w1 wr v L) (hb : Below B w w1) (hB : B ≤ B') (h1 : B ≤ w.heap.size) : OwnM B w wr v L := by
  obtain ⟨⟨h2, h3⟩, h4, h5⟩ := h
  refine ⟨⟨h2, ?_⟩, hb.trans (h4.mono hB), Nat.le_trans hB h5⟩
  rcases h3 with h3 | ⟨g, cap, cur, e, hg, r⟩
  · exact Or.inl h3
  · exact Or.inr ⟨g, cap, cur, e, Nat.le_trans hB hg, r⟩
theorem want_true (L : List Ms) : wantM (fun _ => true) L = L := by unfold wantM; exact List.filter_eq_self.2 (fun _ _ => rfl)
theorem all1_eq (W : World) (x : List UInt8) : Calls Tryz.prog 26 #[.string ⟨x.toArray⟩] W fun e w' => e = .returned (.bool true) ∧ Below W.heap.size W w' := by
  go_enter Tryz.func26, Tryz.ntmps26
  go_wp2_with fail
  go_ret
  exact ⟨rfl, Below.refl _ _⟩
theorem find1_eq (f x : List UInt8) (pf : Nat) (r : Bool) (W : World) (hG : Glo W) (hc : W.cell? ⟨pf, 0, none⟩ = some (.string ⟨f.toArray⟩)) (hf : f.length ≤ 100000000) (hx : x.length ≤ 100000000) (hr : matB f x = r) :
    Calls Tryz.prog 27 #[.string ⟨x.toArray⟩, .pointer (some ⟨pf, 0, none⟩)] W fun e w' => e = .returned (.bool r) ∧ Below W.heap.size W w' := by
  have HG := Lib.hid hG
  have HR := Lib.hid hr
  clear hG hr
  go_enter Tryz.func27, Tryz.ntmps27
  go_wp2_with fail
  refine (tpMatch_eq f x r W HG.out hf hx HR.out).mono ?_
  rintro e w1 ⟨rfl, hb1⟩
  go_wp2_with fail
  go_ret
  exact ⟨rfl, hb1⟩
theorem all_raw (ptr : Option Addr) (mb : Option Nat) (hmsg : Hid (∀ W, Below w.heap.size w W → Calls Tryz.prog 24 #[.pointer ptr] W fun e w' => e = .returned (.map mb) ∧ W = w')) (hm : MbOk w t L mb) (hS : Srt kB L) (hL : L.length ≤ 1000000) (hlt : ∀ x ∈ L, x.1.length ≤ 1000000) :
    Calls Tryz.prog 16 #[.pointer ptr] w fun e w' => OMP w L e w' := by
  have H := Lib.hid (list_all ptr mb hmsg hm hS hL hlt (fun _ => true) (fun W x _ _ => all1_eq W x))
  rw [want_true] at H
  clear hm hS hlt hmsg
  go_enter Tryz.func16, Tryz.ntmps16
  go_wp2_with fail
  refine H.out.mono ?_
  rintro e w1 ⟨v, rfl, hO⟩
  have HO := Lib.hid hO
  clear hO
  go_wp2_with fail
  go_ret
  exact ⟨v, rfl, HO.out⟩
theorem find_raw (ptr : Option Addr) (mb : Option Nat) (f : List UInt8) (hG : Glo w) (hf : f.length ≤ 1000000) (hmsg : Hid (∀ W, Below w.heap.size w W → Calls Tryz.prog 24 #[.pointer ptr] W fun e w' => e = .returned (.map mb) ∧ W = w')) (hm : MbOk w t L mb) (hS : Srt kB L) (hL : L.length ≤ 1000000) (hlt : ∀ x ∈ L, x.1.length ≤ 1000000) :
    Calls Tryz.prog 17 #[.pointer ptr, .string ⟨f.toArray⟩] w fun e w' => OMP w (fndM L f) e w' := by
  obtain ⟨W, hW⟩ : ∃ W, W = w.alloc (.cells #[.string ⟨f.toArray⟩] 9) := ⟨_, rfl⟩
  have hbW : Below w.heap.size w W := by rw [hW]; exact below_alloc (Below.refl _ _) _
  have hc : W.cell? ⟨w.heap.size, 0, none⟩ = some (.string ⟨f.toArray⟩) := by rw [hW, World.cell?_alloc_new]; rfl
  have H := Lib.hid (list_find (w := W) (t := t) (L := L) ptr mb (fun W2 h2 => hmsg.out W2 (hbW.trans (h2.mono hbW.size))) (hm.below hbW) hS hL hlt (fun x => matB f x) w.heap.size (fun W2 x h2 hx => find1_eq f x w.heap.size _ W2 ((hG.below hbW).below h2) ((h2.cell (World.block_lt_of_cell? _ _ hc)).trans hc) (by omega) (by omega) rfl))
  have HBW := Lib.hid hbW
  clear hm hS hlt hmsg hc hbW hG
  go_enter Tryz.func17, Tryz.ntmps17
  go_wp2_with fail
  rw [← hW]
  clear hW
  refine H.out.mono ?_
  rintro e w1 ⟨v, rfl, hO⟩
  have HO := Lib.hid hO
  clear hO
  go_wp2_with fail
  go_ret
  exact ⟨v, rfl, HO.out.wider HBW.out HBW.out.size (Nat.le_refl _)⟩
theorem KsOk.lt {n : Nat} (h : KsOk n L) : ∀ x ∈ L, x.1.length ≤ 1000000 := fun x hx => by have := (h.2.2 x hx).2.2.2.1; omega
theorem kAll {n : Nat} (hP : KP w t F L) (hk : KsOk n L) (hn : n ≤ 1000) : Calls Tryz.prog 16 #[.pointer (some ⟨t, 0, none⟩)] w fun e w' => OMP w L e w' := by
  obtain ⟨mb, c1, c2, c3, c4⟩ := hP
  exact all_raw (t := t) (some ⟨t, 0, none⟩) mb (fun W hb => messages_eq ((hb.cell (World.block_lt_of_cell? _ _ c1)).trans c1)) c3 hk.1 (by have := hk.2.1; omega) hk.lt
theorem kFind {n : Nat} (f : List UInt8) (hG : Glo w) (hP : KP w t F L) (hk : KsOk n L) (hn : n ≤ 1000) (hf : f.length ≤ 1000000) : Calls Tryz.prog 17 #[.pointer (some ⟨t, 0, none⟩), .string ⟨f.toArray⟩] w fun e w' => OMP w (fndM L f) e w' := by
  obtain ⟨mb, c1, c2, c3, c4⟩ := hP
  exact find_raw (t := t) (some ⟨t, 0, none⟩) mb f hG hf (fun W hb => messages_eq ((hb.cell (World.block_lt_of_cell? _ _ c1)).trans c1)) c3 hk.1 (by have := hk.2.1; omega) hk.lt
theorem kAllN (w : World) : Calls Tryz.prog 16 #[.pointer none] w fun e w' => OMP w [] e w' :=
  all_raw (t := 0) (L := []) none none (fun W _ => messages_nil W) rfl List.Pairwise.nil (by simp) (fun x hx => by cases hx)
theorem kFindN (w : World) (f : List UInt8) (hG : Glo w) (hf : f.length ≤ 1000000) : Calls Tryz.prog 17 #[.pointer none, .string ⟨f.toArray⟩] w fun e w' => OMP w [] e w' :=
  find_raw (t := 0) (L := []) none none f hG hf (fun W _ => messages_nil W) rfl List.Pairwise.nil (by simp) (fun x hx => by cases hx)
end
end Go.Proofs.YthhadjnffeadfaaGreatDoor
