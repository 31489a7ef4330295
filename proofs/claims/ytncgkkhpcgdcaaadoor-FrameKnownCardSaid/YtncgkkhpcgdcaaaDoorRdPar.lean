/-
  read: what the parser's methods do: a login, a will, a CONNACK, a publish.
-/
import Derived.Test.YtncgkkhpcgdcaaaDoorRdCut
set_option linter.unusedSimpArgs false
set_option linter.unusedVariables false
namespace Go.Proofs.YtncgkkhpcgdcaaaDoor
open Go.RowKit
set_option maxRecDepth 100000
theorem bits_all : ∀ n : Fin 256, (bits .and .u8 (n.val : Int) 1 != 0) = bitB (n.val : Int) 1 ∧ (bits .and .u8 (n.val : Int) 2 != 0) = bitB (n.val : Int) 2 ∧ (bits .and .u8 (n.val : Int) 4 != 0) = bitB (n.val : Int) 4 ∧ (bits .and .u8 (n.val : Int) 8 != 0) = bitB (n.val : Int) 8
    ∧ (bits .and .u8 (n.val : Int) 32 != 0) = bitB (n.val : Int) 32 ∧ (bits .and .u8 (n.val : Int) 64 != 0) = bitB (n.val : Int) 64 ∧ (bits .and .u8 (n.val : Int) 128 != 0) = bitB (n.val : Int) 128 := by decide +kernel
theorem bits_of {b : Int} (h0 : 0 ≤ b) (h1 : b ≤ 255) : (bits .and .u8 b 1 != 0) = bitB b 1 ∧ (bits .and .u8 b 2 != 0) = bitB b 2 ∧ (bits .and .u8 b 4 != 0) = bitB b 4 ∧ (bits .and .u8 b 8 != 0) = bitB b 8
    ∧ (bits .and .u8 b 32 != 0) = bitB b 32 ∧ (bits .and .u8 b 64 != 0) = bitB b 64 ∧ (bits .and .u8 b 128 != 0) = bitB b 128 := by
  have := bits_all ⟨b.toNat, by omega⟩
  rw [show ((⟨b.toNat, by omega⟩ : Fin 256).val : Int) = b from by show (b.toNat : Int) = b; omega] at this
  exact this
/-- The cells of a parser. -/
abbrev PsC (s : Ps) (A : Option Addr) (n c : Nat) : Array Value := Rw s.l s.f (PkC s.p A n c)
theorem gt_bd {l : List UInt8} {g : List UInt8 × Int × Int} (h : l.length ≤ 1000000000) : (gtL l g).length ≤ 1000000000 := Nat.le_trans (gtL_le l g) h
section
variable {w0 w : World} {g : Nat} {l : List UInt8} {f : Bool} {p : Pk} {A : Option Addr} {n c : Nat} {t : TypeId} {L : List (Nat × Array Value × TypeId)}
theorem pLogin (h : Kp w0 ((g, Rw l f (PkC p A n c), t) :: L) w) (hne : ∀ x ∈ L, x.1 ≠ g) (hl : l.length ≤ 1000000000) (b : Int) (b0 : 0 ≤ b) (b1 : b ≤ 255) :
    Calls Tryd.prog 68 #[.pointer (some ⟨g, 0, none⟩), .int .u8 b] w fun e w' => e = .returned (.tuple #[]) ∧ Kp w0 ((g, PsC (psLogin b ⟨l, f, p⟩) A n c, t) :: L) w' := by
  obtain ⟨_, _, _, _, _, e64, e128⟩ := bits_of b0 b1
  have hK := h
  have a1r := h.row; have a1f := h.free; have a1c := h.cell; have a1l := h.lt; have a1z := h.froz
  clear h b0 b1
  cases hu : bitB b 128 with
  | true =>
    rw [hu] at e128
    cases hp : bitB b 64 with
    | true =>
      rw [hp] at e64
      have HR : Hid (psLogin b ⟨l, f, p⟩ = psPassT (psUserT ⟨l, f, (p.s_hasUser true).s_hasPass true⟩)) := by show _ = _; unfold psLogin psHas; rw [hu, hp]; rfl
      rw [HR.out]
      clear HR hu hp
      have hK1 := hK.set hne (Rw l f (PkC ((p.s_hasUser true).s_hasPass true) A n c))
      go_enter Tryd.func68, Tryd.ntmps68
      go_wp2_with fail
      refine (rText hK1 hne hl).mono ?_
      rintro e w1 ⟨rfl, hK2⟩
      clear a1r a1f a1c a1l a1z hK hK1
      have hK3 := hK2.set hne (Rw (gtL l (getR l)) (gtF f (getR l)) (PkC (((p.s_hasUser true).s_hasPass true).s_user (gtV (getR l))) A n c))
      have a1r := hK2.row; have a1f := hK2.free; have a1c := hK2.cell; have a1l := hK2.lt; have a1z := hK2.froz
      go_wp2_with fail
      refine (rData hK3 hne (gt_bd hl)).mono ?_
      rintro e w2 ⟨rfl, hK4⟩
      clear a1r a1f a1c a1l a1z hK2 hK3
      have hK5 := hK4.set hne (PsC (psPassT (psUserT ⟨l, f, (p.s_hasUser true).s_hasPass true⟩)) A n c)
      have a1r := hK4.row; have a1f := hK4.free; have a1c := hK4.cell; have a1l := hK4.lt; have a1z := hK4.froz
      go_wp2_with fail
      go_end0
      exact ⟨rfl, hK5⟩
    | false =>
      rw [hp] at e64
      have HR : Hid (psLogin b ⟨l, f, p⟩ = psUserT ⟨l, f, (p.s_hasUser true).s_hasPass false⟩) := by show _ = _; unfold psLogin psHas; rw [hu, hp]; rfl
      rw [HR.out]
      clear HR hu hp
      have hK1 := hK.set hne (Rw l f (PkC ((p.s_hasUser true).s_hasPass false) A n c))
      go_enter Tryd.func68, Tryd.ntmps68
      go_wp2_with fail
      refine (rText hK1 hne hl).mono ?_
      rintro e w1 ⟨rfl, hK2⟩
      clear a1r a1f a1c a1l a1z hK hK1
      have hK3 := hK2.set hne (PsC (psUserT ⟨l, f, (p.s_hasUser true).s_hasPass false⟩) A n c)
      have a1r := hK2.row; have a1f := hK2.free; have a1c := hK2.cell; have a1l := hK2.lt; have a1z := hK2.froz
      go_wp2_with fail
      go_end0
      exact ⟨rfl, hK3⟩
  | false =>
    rw [hu] at e128
    cases hp : bitB b 64 with
    | true =>
      rw [hp] at e64
      have HR : Hid (psLogin b ⟨l, f, p⟩ = psPassT ⟨l, f, (p.s_hasUser false).s_hasPass true⟩) := by show _ = _; unfold psLogin psHas; rw [hu, hp]; rfl
      rw [HR.out]
      clear HR hu hp
      have hK1 := hK.set hne (Rw l f (PkC ((p.s_hasUser false).s_hasPass true) A n c))
      go_enter Tryd.func68, Tryd.ntmps68
      go_wp2_with fail
      refine (rData hK1 hne hl).mono ?_
      rintro e w1 ⟨rfl, hK2⟩
      clear a1r a1f a1c a1l a1z hK hK1
      have hK3 := hK2.set hne (PsC (psPassT ⟨l, f, (p.s_hasUser false).s_hasPass true⟩) A n c)
      have a1r := hK2.row; have a1f := hK2.free; have a1c := hK2.cell; have a1l := hK2.lt; have a1z := hK2.froz
      go_wp2_with fail
      go_end0
      exact ⟨rfl, hK3⟩
    | false =>
      rw [hp] at e64
      have HR : Hid (psLogin b ⟨l, f, p⟩ = ⟨l, f, (p.s_hasUser false).s_hasPass false⟩) := by show _ = _; unfold psLogin psHas; rw [hu, hp]; rfl
      rw [HR.out]
      clear HR hu hp
      have hK1 := hK.set hne (Rw l f (PkC ((p.s_hasUser false).s_hasPass false) A n c))
      go_enter Tryd.func68, Tryd.ntmps68
      go_wp2_with fail
      go_end0
      exact ⟨rfl, hK1⟩
theorem pWill (h : Kp w0 ((g, Rw l f (PkC p A n c), t) :: L) w) (hne : ∀ x ∈ L, x.1 ≠ g) (hl : l.length ≤ 1000000000) (b : Int) (b0 : 0 ≤ b) (b1 : b ≤ 255) :
    Calls Tryd.prog 67 #[.pointer (some ⟨g, 0, none⟩), .int .u8 b] w fun e w' => e = .returned (.tuple #[]) ∧ Kp w0 ((g, PsC (psWill b ⟨l, f, p⟩) A n c, t) :: L) w' := by
  obtain ⟨_, _, e4, _, e32, _, _⟩ := bits_of b0 b1
  have hK := h
  have a1r := h.row; have a1f := h.free; have a1c := h.cell; have a1l := h.lt; have a1z := h.froz
  clear h
  cases hu : bitB b 4 with
  | true =>
    rw [hu] at e4
    have HR : Hid (psWill b ⟨l, f, p⟩ = psWillL (psWillT ⟨l, f, ((p.s_hasWill true).s_wq (b / 8 % 4)).s_wr (bitB b 32)⟩)) := by show _ = _; unfold psWill; rw [hu]; rfl
    rw [HR.out]
    clear HR hu
    have hK1 := hK.set hne (Rw l f (PkC (((p.s_hasWill true).s_wq (b / 8 % 4)).s_wr (bitB b 32)) A n c))
    go_enter Tryd.func67, Tryd.ntmps67
    go_wp2_with fail
    refine (qosIn_any b 8 _ b0 b1 (Or.inr rfl)).mono ?_
    rintro e w1 ⟨rfl, rfl⟩
    go_wp2_with fail
    refine (rText hK1 hne hl).mono ?_
    rintro e w1 ⟨rfl, hK2⟩
    clear a1r a1f a1c a1l a1z hK hK1
    have hK3 := hK2.set hne (PsC (psWillT ⟨l, f, ((p.s_hasWill true).s_wq (b / 8 % 4)).s_wr (bitB b 32)⟩) A n c)
    have a1r := hK2.row; have a1f := hK2.free; have a1c := hK2.cell; have a1l := hK2.lt; have a1z := hK2.froz
    go_wp2_with fail
    refine (rData hK3 hne (gt_bd hl)).mono ?_
    rintro e w2 ⟨rfl, hK4⟩
    clear a1r a1f a1c a1l a1z hK2 hK3
    have hK5 := hK4.set hne (PsC (psWillL (psWillT ⟨l, f, ((p.s_hasWill true).s_wq (b / 8 % 4)).s_wr (bitB b 32)⟩)) A n c)
    have a1r := hK4.row; have a1f := hK4.free; have a1c := hK4.cell; have a1l := hK4.lt; have a1z := hK4.froz
    go_wp2_with fail
    go_end0
    exact ⟨rfl, hK5⟩
  | false =>
    rw [hu] at e4
    have HR : Hid (psWill b ⟨l, f, p⟩ = ⟨l, f, ((p.s_hasWill false).s_wq (b / 8 % 4)).s_wr (bitB b 32)⟩) := by show _ = _; unfold psWill; rw [hu]; rfl
    rw [HR.out]
    clear HR hu
    have hK1 := hK.set hne (Rw l f (PkC (((p.s_hasWill false).s_wq (b / 8 % 4)).s_wr (bitB b 32)) A n c))
    go_enter Tryd.func67, Tryd.ntmps67
    go_wp2_with fail
    refine (qosIn_any b 8 _ b0 b1 (Or.inr rfl)).mono ?_
    rintro e w1 ⟨rfl, rfl⟩
    go_wp2_with fail
    go_end0
    exact ⟨rfl, hK1⟩
theorem pAck (h : Kp w0 ((g, Rw l f (PkC p A n c), t) :: L) w) (hne : ∀ x ∈ L, x.1 ≠ g) (hl : l.length ≤ 1000000000) :
    Calls Tryd.prog 57 #[.pointer (some ⟨g, 0, none⟩)] w fun e w' => e = .returned (.tuple #[]) ∧ Kp w0 ((g, PsC (psAck ⟨l, f, p⟩) A n c, t) :: L) w' := by
  have hb := by_bd l
  have hd : (l.tail).length ≤ 1000000000 := by rw [List.length_tail]; omega
  by_cases h1 : 1 < byV l
  · have HR : Hid (psAck ⟨l, f, p⟩ = psAck2 ⟨[], true, p.s_present (byV l != 0)⟩) := by show _ = _; unfold psAck psAck1; rw [if_pos h1]
    rw [HR.out]
    have hd1 : decide (1 < byV l) = true := by simpa using h1
    clear HR
    go_enter Tryd.func57, Tryd.ntmps57
    go_wp2_with fail
    refine (rByte h hne hl).mono ?_
    rintro e w1 ⟨rfl, hK1⟩
    clear h
    go_wp2_with fail
    refine (rFail hK1 hne).mono ?_
    rintro e w1 ⟨rfl, hK2⟩
    clear hK1
    have hK3 := hK2.set hne (Rw [] true (PkC (p.s_present (byV l != 0)) A n c))
    have a1r := hK2.row; have a1f := hK2.free; have a1c := hK2.cell; have a1l := hK2.lt; have a1z := hK2.froz
    go_wp2_with fail
    refine (rByte hK3 hne (by simp)).mono ?_
    rintro e w1 ⟨rfl, hK4⟩
    clear a1r a1f a1c a1l a1z hK2 hK3
    have hK5 := hK4.set hne (PsC (psAck2 ⟨[], true, p.s_present (byV l != 0)⟩) A n c)
    have a1r := hK4.row; have a1f := hK4.free; have a1c := hK4.cell; have a1l := hK4.lt; have a1z := hK4.froz
    go_wp2_with fail
    go_end0
    exact ⟨rfl, hK5⟩
  · have HR : Hid (psAck ⟨l, f, p⟩ = psAck2 ⟨l.tail, byF l f, p.s_present (byV l != 0)⟩) := by show _ = _; unfold psAck psAck1; rw [if_neg h1]
    rw [HR.out]
    have hd1 : decide (1 < byV l) = false := by simpa using h1
    clear HR
    go_enter Tryd.func57, Tryd.ntmps57
    go_wp2_with fail
    refine (rByte h hne hl).mono ?_
    rintro e w1 ⟨rfl, hK2⟩
    clear h
    have hK3 := hK2.set hne (Rw (l.tail) (byF l f) (PkC (p.s_present (byV l != 0)) A n c))
    have a1r := hK2.row; have a1f := hK2.free; have a1c := hK2.cell; have a1l := hK2.lt; have a1z := hK2.froz
    go_wp2_with fail
    refine (rByte hK3 hne hd).mono ?_
    rintro e w1 ⟨rfl, hK4⟩
    clear a1r a1f a1c a1l a1z hK2 hK3
    have hK5 := hK4.set hne (PsC (psAck2 ⟨l.tail, byF l f, p.s_present (byV l != 0)⟩) A n c)
    have a1r := hK4.row; have a1f := hK4.free; have a1c := hK4.cell; have a1l := hK4.lt; have a1z := hK4.froz
    go_wp2_with fail
    go_end0
    exact ⟨rfl, hK5⟩
theorem pPub (h : Kp w0 ((g, Rw l f (PkC p A n c), t) :: L) w) (hne : ∀ x ∈ L, x.1 ≠ g) (hl : l.length ≤ 1000000000) (b : Int) (b0 : 0 ≤ b) (b1 : b ≤ 255) :
    Calls Tryd.prog 58 #[.pointer (some ⟨g, 0, none⟩), .int .u8 b] w fun e w' => e = .returned (.tuple #[]) ∧ Kp w0 ((g, PsC (psPub b ⟨l, f, p⟩) A n c, t) :: L) w' := by
  obtain ⟨e1, _, _, e8, _, _, _⟩ := bits_of b0 b1
  have hq : 0 ≤ b / 2 % 4 ∧ b / 2 % 4 ≤ 3 := by omega
  have hK := h
  have a1r := h.row; have a1f := h.free; have a1c := h.cell; have a1l := h.lt; have a1z := h.froz
  clear h
  have hg := gt_bd (g := getR l) hl
  have hqq : ((((p.s_dup (bitB b 8)).s_qos (b / 2 % 4)).s_ret (bitB b 1)).s_topic (gtV (getR l))).qos = b / 2 % 4 := rfl
  by_cases h0 : 0 < b / 2 % 4
  · have HR : Hid (psPub b ⟨l, f, p⟩ = psLoad (psId (psPub1 b ⟨l, f, p⟩))) := by show _ = _; unfold psPub; rw [if_pos h0]
    rw [HR.out]
    have hd1 : decide (0 < b / 2 % 4) = true := by simpa using h0
    clear HR
    have hK1 := hK.set hne (Rw l f (PkC (((p.s_dup (bitB b 8)).s_qos (b / 2 % 4)).s_ret (bitB b 1)) A n c))
    go_enter Tryd.func58, Tryd.ntmps58
    go_wp2_with fail
    refine (qosIn_any b 2 _ b0 b1 (Or.inl rfl)).mono ?_
    rintro e w1 ⟨rfl, rfl⟩
    go_wp2_with fail
    refine (rText hK1 hne hl).mono ?_
    rintro e w1 ⟨rfl, hK2⟩
    clear a1r a1f a1c a1l a1z hK hK1
    have hK3 := hK2.set hne (PsC (psPub1 b ⟨l, f, p⟩) A n c)
    have a1r := hK2.row; have a1f := hK2.free; have a1c := hK2.cell; have a1l := hK2.lt; have a1z := hK2.froz
    go_wp2_with fail
    refine (rWord hK3 hne hg).mono ?_
    rintro e w2 ⟨rfl, hK4⟩
    clear a1r a1f a1c a1l a1z hK2 hK3
    have hK5 := hK4.set hne (PsC (psId (psPub1 b ⟨l, f, p⟩)) A n c)
    have a1r := hK4.row; have a1f := hK4.free; have a1c := hK4.cell; have a1l := hK4.lt; have a1z := hK4.froz
    go_wp2_with fail
    refine (rAll hK5 hne (Nat.le_trans (woL_le _) hg)).mono ?_
    rintro e w2 ⟨rfl, hK6⟩
    clear a1r a1f a1c a1l a1z hK4 hK5
    have hK7 := hK6.set hne (PsC (psLoad (psId (psPub1 b ⟨l, f, p⟩))) A n c)
    have a1r := hK6.row; have a1f := hK6.free; have a1c := hK6.cell; have a1l := hK6.lt; have a1z := hK6.froz
    go_wp2_with fail
    go_end0
    exact ⟨rfl, hK7⟩
  · have HR : Hid (psPub b ⟨l, f, p⟩ = psLoad (psPub1 b ⟨l, f, p⟩)) := by show _ = _; unfold psPub; rw [if_neg h0]
    rw [HR.out]
    have hd1 : decide (0 < b / 2 % 4) = false := by simpa using h0
    clear HR
    have hK1 := hK.set hne (Rw l f (PkC (((p.s_dup (bitB b 8)).s_qos (b / 2 % 4)).s_ret (bitB b 1)) A n c))
    go_enter Tryd.func58, Tryd.ntmps58
    go_wp2_with fail
    refine (qosIn_any b 2 _ b0 b1 (Or.inl rfl)).mono ?_
    rintro e w1 ⟨rfl, rfl⟩
    go_wp2_with fail
    refine (rText hK1 hne hl).mono ?_
    rintro e w1 ⟨rfl, hK2⟩
    clear a1r a1f a1c a1l a1z hK hK1
    have hK3 := hK2.set hne (PsC (psPub1 b ⟨l, f, p⟩) A n c)
    have a1r := hK2.row; have a1f := hK2.free; have a1c := hK2.cell; have a1l := hK2.lt; have a1z := hK2.froz
    go_wp2_with fail
    refine (rAll hK3 hne hg).mono ?_
    rintro e w2 ⟨rfl, hK6⟩
    clear a1r a1f a1c a1l a1z hK2 hK3
    have hK7 := hK6.set hne (PsC (psLoad (psPub1 b ⟨l, f, p⟩)) A n c)
    have a1r := hK6.row; have a1f := hK6.free; have a1c := hK6.cell; have a1l := hK6.lt; have a1z := hK6.froz
    go_wp2_with fail
    go_end0
    exact ⟨rfl, hK7⟩
end
end Go.Proofs.YtncgkkhpcgdcaaaDoor
