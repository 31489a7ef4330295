/-
  trie: Match.
-/
import Derived.Test.YtipdmfnkkkdlbaaGreatDoorTgLook
import Derived.Test.YtipdmfnkkkdlbaaGreatDoorTgKeys
set_option linter.unusedSimpArgs false
set_option linter.unusedVariables false
namespace Go.Proofs.YtipdmfnkkkdlbaaGreatDoor
section
open Go.RowKit
def oTgMatch1 : Oper := ({ dst := some 22, op := Go.Op.load 63 (Go.Operand.tmp 8), type := 63, pos := "trie.go:103", after := #[], guard := none } : Oper)
def oTgMatch2 : Oper := ({ dst := some 23, op := Go.Op.move (Go.Operand.tmp 0), type := 25, pos := "trie.go:103", after := #[], guard := none } : Oper)
def oTgMatch3 : Oper := ({ dst := some 24, op := Go.Op.nilCheck (Go.Operand.tmp 23), type := 0, pos := "trie.go:103", after := #[{ on := 1, ground := Go.Ground.data }], guard := none } : Oper)
def oTgMatch4 : Oper := ({ dst := some 25, op := Go.Op.fieldAddr 55 (Go.Operand.tmp 24) 0, type := 0, pos := "trie.go:103", after := #[{ on := 2, ground := Go.Ground.data }], guard := none } : Oper)
def oTgMatch5 : Oper := ({ dst := some 26, op := Go.Op.call { callee := Go.Callee.value (Go.Operand.tmp 22), args := #[Go.Operand.tmp 25, Go.Operand.const (Go.Value.int Go.IntKind.i64 0)], argTypes := #[57, 3] }, type := 0, pos := "trie.go:103", after := #[{ on := 0, ground := Go.Ground.data }, { on := 3, ground := Go.Ground.data }], guard := none } : Oper)
end
open Go.RowKit Go.Maps

section
variable {w w' : World} {t : Nat} {G : TG} {ps : List Pth} {L : List Hn}
theorem mat_none {nm : List UInt8} (h : namB nm = false) : matL L nm = [] := by
  have h1 := (mat_facts nm L).2
  cases hm : matL L nm with
  | nil => rfl
  | cons x r =>
    obtain ⟨y, _, _, h2⟩ := (h1 x).1 (by rw [hm]; simp)
    have := (matB_parts h2).1
    rw [h] at this; cases this
set_option maxHeartbeats 4000000 in
set_option maxRecDepth 100000 in
theorem gMatch_any (hG : Glo w) (hP : PTG w t G ps L) (hL : L.length ≤ 100) (nm : List UInt8) (M : List (List UInt8)) (hl : nm.length ≤ 300) (hM : matL L nm = M) :
    Calls Tryz.prog 19 #[.pointer (some ⟨t, 0, none⟩), .string ⟨nm.toArray⟩] w fun e w' => SVP w M e w' := by
  cases hn : namB nm with
  | false =>
    rw [mat_none hn] at hM
    subst hM
    have HN := Lib.hid hn
    clear hn hP hG
    go_enter Tryz.func19, Tryz.ntmps19
    go_wp2_with fail
    refine (tpName_eq nm false _ (by omega) HN.out).mono ?_
    rintro e w1 ⟨rfl, hb1⟩
    go_wp2_with fail
    go_ret
    exact ⟨none, 0, rfl, Strs.nil _, .inl ⟨rfl, rfl⟩, Nat.le_refl _, hb1⟩
  | true =>
    obtain ⟨V, hV⟩ : ∃ V, levs nm = V := ⟨_, rfl⟩
    obtain ⟨hid, hhid⟩ : ∃ hid, dolB nm = hid := ⟨_, rfl⟩
    have hvl := levs_len nm
    have hv0 : 0 < V.length := by rw [← hV]; exact levs_pos nm
    rw [hV] at hvl
    have HNL : Hid (∀ x ∈ V, x.length ≤ 1000) := fun y hy => by rw [← hV] at hy; exact Nat.le_trans (levs_bd nm y hy) (by omega)
    have HPL : Hid (∀ x ∈ V, plB x = true) := fun y hy => by
      have := (nam_parts hn).2.2
      rw [plB_levs, hV, List.all_eq_true] at this
      exact this y hy
    have HMM : Hid (∀ x, x ∈ M ↔ LkP G.cl hid V [] 0 x) := fun x => by
      rw [← hM, ← hhid, ← hV]
      exact (lk_mat L G.cl hP.2.2.1 hP.2.2.2.2 nm hn x).symm
    have HMS : Hid (Srt ltB M) := by show Srt _ _; rw [← hM]; exact (mat_facts nm L).1
    have HFIT : Hid (∀ q c, G.cl q c → fitL q = true) := fun q c hc => by
      obtain ⟨x, hx, rfl, _⟩ := (hP.2.2.1 q c).1 hc
      exact (fil_parts (hP.2.2.2.2 x hx)).2.2
    have HKC : Hid (∀ q c, G.cl q c → c ∈ L.map (·.2)) := fun q c hc => hP.cls q c hc
    have hkl : (L.map (·.2)).length ≤ 1000000 := by rw [List.length_map]; omega
    have hmm := @run_makeMap Tryz.prog
    have HN := Lib.hid hn
    have HP := Lib.hid hP
    have HG := Lib.hid hG
    have HV := Lib.hid hV
    have HD := Lib.hid hhid
    clear hn hP hG hV hhid hM
    go_enter Tryz.func19, Tryz.ntmps19
    go_wp2_with fail
    refine (tpName_eq nm true _ (by omega) HN.out).mono ?_
    rintro e w0 ⟨rfl, hb0⟩
    go_wp2_with fail
    refine (tpLevels_eq nm V w0 (HG.out.below hb0) (by omega) HV.out).mono ?_
    rintro e w1 ⟨gl, cl, rfl, _, hsl, hb1⟩
    have hbw := below_more hb0 hb1
    have HSL := Lib.hid hsl
    have HBW := Lib.hid hbw
    clear hb0 hb1 hsl hbw
    go_wp2_with fail
    refine (hasDol_eq nm hid _ HD.out).mono ?_
    rintro e w2 ⟨rfl, rfl⟩
    go_wp2_with fail
    obtain ⟨gf, hgf⟩ : ∃ gf, gf = Value.func (.func 43) #[] #[.pointer (some ⟨w1.heap.size + 1, 0, none⟩), .pointer (some ⟨w1.heap.size + 1 + 1 + 1, 0, none⟩), .pointer (some ⟨w1.heap.size, 0, none⟩), .pointer (some ⟨w1.heap.size + 1 + 1 + 1 + 1, 0, none⟩)] := ⟨_, rfl⟩
    rw [← hgf]
    obtain ⟨W, hW⟩ : ∃ W, W = (((((w1.alloc (.cells #[.slice (some ⟨gl, 0, none⟩) V.length cl] 36)).alloc (.cells #[.bool hid] 4)).alloc (.map #[] 0)).alloc (.cells #[.map (some (w1.heap.size + 1 + 1))] 51)).alloc (.cells #[gf] 63)) := ⟨_, rfl⟩
    rw [← hW]
    have h5 : W.cell? ⟨w1.heap.size, 0, none⟩ = some (.slice (some ⟨gl, 0, none⟩) V.length cl) := by rw [hW]; go_simp
    have h6 : W.cell? ⟨w1.heap.size + 1, 0, none⟩ = some (.bool hid) := by rw [hW]; go_simp
    have h7 : W.cell? ⟨w1.heap.size + 1 + 1 + 1, 0, none⟩ = some (.map (some (w1.heap.size + 1 + 1))) := by rw [hW]; go_simp
    have h8 : W.cell? ⟨w1.heap.size + 1 + 1 + 1 + 1, 0, none⟩ = some gf := by rw [hW]; go_simp
    have hCM : CM W (w1.heap.size + 1 + 1) (fun _ => False) := by
      have h0 := CM.made ((w1.alloc (.cells #[.slice (some ⟨gl, 0, none⟩) V.length cl] 36)).alloc (.cells #[.bool hid] 4))
      rw [show ((w1.alloc (.cells #[.slice (some ⟨gl, 0, none⟩) V.length cl] 36)).alloc (.cells #[.bool hid] 4)).heap.size = w1.heap.size + 1 + 1 by simp] at h0
      rw [hW]
      exact (h0.below (below_alloc (Below.refl _ _) _)).below (below_alloc (Below.refl _ _) _)
    have hbW : Below w1.heap.size w1 W := by
      rw [hW]
      exact below_alloc (below_alloc (below_alloc (below_alloc (below_alloc (Below.refl _ _) _) _) _) _) _
    have HK : Hid (LkK V hid (w1.heap.size + 1 + 1) (w1.heap.size + 1) (w1.heap.size + 1 + 1 + 1) w1.heap.size (w1.heap.size + 1 + 1 + 1 + 1) W) := ⟨gl, cl, h6, h7, h5, by rw [h8, hgf], HSL.out.below hbW⟩
    have hbw2 := below_more HBW.out hbW
    have HT : Hid (TR W t G (L.length : Nat) (ps.length : Nat)) := HP.out.1.below hbw2
    have HC := Lib.hid hCM
    have HB2 := Lib.hid hbw2
    have HBD : Hid (¬ G.F (w1.heap.size + 1 + 1)) := fun e => by have := HP.out.1.lt _ e; have := HBW.out.size; omega
    have HGF := Lib.hid hgf
    clear hW hCM hbW hbw2 h5 h6 hgf
    have hHeld : Below W.heap.size W W.drew := (Below.refl _ _).drew
    refine region_last (S := (fun w' => Below W.heap.size W w')) (m := 4) (by kernel_rfl) ?_
    have hLast : LastL .any _ 4 := last_chain (ops := #[oTgMatch1, oTgMatch2, oTgMatch3, oTgMatch4, oTgMatch5]) [(0, 4), (3, 4), (2, 3), (1, 2)] (by kernel_rfl)
    refine tkM hLast 0 oTgMatch1 ?vv29_142_0 rfl (by kernel_rfl) (by kernel_rfl) (by kernel_rfl) (by rfl) (fun _ _ _ h => h) (by rfl) ?hy29_142_0 (by assumption) ?rest29_142_0
    case hy29_142_0 => (intro w hSw; unfold oTgMatch1; (try dsimp only at hSw); have q := (hSw.cell (World.block_lt_of_cell? _ _ h8)).trans h8; clear hSw; go_simp; all_goals with_reducible rfl)
    try simp only [oTgMatch1, Act.put, sA, sB, sC]
    refine tkM hLast 1 oTgMatch2 ?vv29_143_1 rfl (by kernel_rfl) (by kernel_rfl) (by kernel_rfl) (by rfl) (fun _ _ _ h => h) (by rfl) ?hy29_143_1 (by assumption) ?rest29_143_1
    case hy29_143_1 => (intro w hSw; unfold oTgMatch2; (try dsimp only at hSw); (try go_split_ands); go_simp; all_goals with_reducible rfl)
    try simp only [oTgMatch2, Act.put, sA, sB, sC]
    refine tkM hLast 2 oTgMatch3 ?vv29_143_2 rfl (by kernel_rfl) (by kernel_rfl) (by kernel_rfl) (by rfl) (fun _ _ _ h => h) (by rfl) ?hy29_143_2 (by assumption) ?rest29_143_2
    case hy29_143_2 => (intro w hSw; unfold oTgMatch3; (try dsimp only at hSw); (try go_split_ands); go_simp; all_goals with_reducible rfl)
    try simp only [oTgMatch3, Act.put, sA, sB, sC]
    refine tkM hLast 3 oTgMatch4 ?vv29_143_3 rfl (by kernel_rfl) (by kernel_rfl) (by kernel_rfl) (by rfl) (fun _ _ _ h => h) (by rfl) ?hy29_143_3 (by assumption) ?rest29_143_3
    case hy29_143_3 => (intro w hSw; unfold oTgMatch4; (try dsimp only at hSw); (try go_split_ands); go_simp; all_goals with_reducible rfl)
    try simp only [oTgMatch4, Act.put, sA, sB, sC]
    rw [HGF.out]
    refine anyM_ready (rs := [4]) (by kernel_rfl) (by simp) ?_
    refine (AllM.cons (o := oTgMatch5) rfl (fun K hK => ?_) AllM.nil)
    unfold oTgMatch5
    go_simp
    (go_at_call 43; refine (look_any V hid (w1.heap.size + 1 + 1) (w1.heap.size + 1) (w1.heap.size + 1 + 1 + 1) w1.heap.size (w1.heap.size + 1 + 1 + 1 + 1) (L.map (·.2)) hkl HKC.out HFIT.out HPL.out HNL hv0 (by omega) HBD.out V.length 0 0 [] _ _ (fun _ => False) rfl (by omega) (by omega) (by rw [HT.out.root]; rfl) (HT.out.below hHeld) (HK.out.below hHeld) (HC.out.below hHeld) (fun c hc => hc.elim)).mono ?_; rintro e w6 ⟨rfl, hC6, hU6⟩)
    refine hK.out _ _ (fun hne => absurd rfl hne) ?_
    clear hK K
    try simp only [oTgMatch5, Act.put, sA, sB, sC]
    refine anyM_done (by kernel_rfl) ?_ _
    have hU7 : Outs W w6 (fun x => x = w1.heap.size + 1 + 1) := (Outs.of_below hHeld).trans hU6 (fun _ _ h => h)
    have h77 := hU7.cell _ _ h7 (show ¬ w1.heap.size + 1 + 1 + 1 = w1.heap.size + 1 + 1 by omega)
    have hb6 : Below w.heap.size w w6 := HB2.out.trans (hU7.below (fun b _ e => by have := HBW.out.size; omega) (HB2.out.size))
    have HB6 := Lib.hid hb6
    have HC6 : Hid (CM w6 (w1.heap.size + 1 + 1) (fun c => LkP G.cl hid V [] 0 c)) := hC6.congr fun c => ⟨fun h => h.elim False.elim id, Or.inr⟩
    clear hC6 hU6 hU7 hHeld hb6 h7 h8
    go_wp2_with fail
    refine (keys_eq (some (w1.heap.size + 1 + 1)) w6).mono ?_
    rintro e w7 ⟨rfl, hw7⟩
    subst hw7
    go_wp2_with fail
    refine (sorted_eq HC6.out (L.map (·.2)) (fun c ⟨r, hr, _⟩ => HKC.out _ c hr) hkl M HMS.out HMM.out).mono ?_
    rintro e w8 ⟨A, c, rfl, hs, hA, hc, hb8⟩
    have HS := Lib.hid hs
    have HA := Lib.hid hA
    have hb9 := below_more HB6.out hb8
    clear hs hA
    go_wp2_with fail
    go_ret
    exact ⟨A, c, rfl, HS.out, HA.out, hc, hb9⟩
end
end Go.Proofs.YtipdmfnkkkdlbaaGreatDoor
