/-
  trie: the path to a node; what is pruned; Remove.
-/
import Derived.Test.YtipdmfnkkkdlbaaGreatDoorTgAdd2
set_option linter.unusedSimpArgs false
set_option linter.unusedVariables false
namespace Go.Proofs.YtipdmfnkkkdlbaaGreatDoor
section
open Go.RowKit
def oTgRem1 : Oper := ({ dst := some 22, op := Go.Op.move (Go.Operand.tmp 1), type := 71, pos := "trie.go:183", after := #[], guard := none } : Oper)
def oTgRem2 : Oper := ({ dst := some 23, op := Go.Op.move (Go.Operand.tmp 6), type := 3, pos := "trie.go:183", after := #[], guard := none } : Oper)
def oTgRem3 : Oper := ({ dst := some 24, op := Go.Op.indexAddr 71 (Go.Operand.tmp 22) (Go.Operand.tmp 23), type := 0, pos := "trie.go:183", after := #[{ on := 0, ground := Go.Ground.data }, { on := 1, ground := Go.Ground.data }], guard := none } : Oper)
def oTgRem4 : Oper := ({ dst := some 25, op := Go.Op.load 57 (Go.Operand.tmp 24), type := 57, pos := "trie.go:183", after := #[{ on := 2, ground := Go.Ground.data }], guard := none } : Oper)
def oTgRem5 : Oper := ({ dst := some 26, op := Go.Op.nilCheck (Go.Operand.tmp 25), type := 0, pos := "trie.go:183", after := #[{ on := 3, ground := Go.Ground.data }], guard := none } : Oper)
def oTgRem6 : Oper := ({ dst := some 27, op := Go.Op.fieldAddr 53 (Go.Operand.tmp 26) 0, type := 0, pos := "trie.go:183", after := #[{ on := 4, ground := Go.Ground.data }], guard := none } : Oper)
def oTgRem7 : Oper := ({ dst := some 28, op := Go.Op.load 49 (Go.Operand.tmp 27), type := 49, pos := "trie.go:183", after := #[{ on := 5, ground := Go.Ground.data }], guard := none } : Oper)
def oTgRem8 : Oper := ({ dst := some 29, op := Go.Op.move (Go.Operand.tmp 2), type := 36, pos := "trie.go:183", after := #[], guard := none } : Oper)
def oTgRem9 : Oper := ({ dst := some 30, op := Go.Op.move (Go.Operand.tmp 6), type := 3, pos := "trie.go:183", after := #[], guard := none } : Oper)
def oTgRem10 : Oper := ({ dst := some 31, op := Go.Op.indexAddr 36 (Go.Operand.tmp 29) (Go.Operand.tmp 30), type := 0, pos := "trie.go:183", after := #[{ on := 7, ground := Go.Ground.data }, { on := 8, ground := Go.Ground.data }], guard := none } : Oper)
def oTgRem11 : Oper := ({ dst := some 32, op := Go.Op.load 9 (Go.Operand.tmp 31), type := 9, pos := "trie.go:183", after := #[{ on := 9, ground := Go.Ground.data }], guard := none } : Oper)
def oTgRem12 : Oper := ({ dst := none, op := Go.Op.call { callee := Go.Callee.builtin Go.Builtin.delete, args := #[Go.Operand.tmp 28, Go.Operand.tmp 32], argTypes := #[49, 9] }, type := 0, pos := "trie.go:183", after := #[{ on := 6, ground := Go.Ground.data }, { on := 10, ground := Go.Ground.data }], guard := none } : Oper)
end
open Go.RowKit Go.Maps

def ptV (b : Nat) : Value := .pointer (some ⟨b, 0, none⟩)
/-- A row of pointers that the call makes. -/
def OwnN (B : Nat) (w0 wr : World) (v : Value) (bs : List Nat) : Prop := wr.ownsRow B 57 1 v bs.length (bs.map ptV) ∧ Below B w0 wr ∧ B ≤ wr.heap.size
theorem infoP : (Tryz.prog.info? 57).map (fun i => (i.zero, i.size, i.bytes)) = some (some (.pointer none), 1, 8) := by kernel_rfl
section
variable {B : Nat} {w0 wr : World} {v : Value} {bs : List Nat}
theorem OwnN.below (h : OwnN B w0 wr v bs) : Below B w0 wr := h.2.1
theorem OwnN.alloc (h : OwnN B w0 wr v bs) (o : Obj) : OwnN B w0 (wr.alloc o) v bs := ⟨h.1.alloc o, h.2.1.alloc h.2.2 o, Nat.le_trans h.2.2 (by simp)⟩
theorem OwnN.lit1 (h : Below B w0 wr) (hB : B ≤ wr.heap.size) (b : Nat) : OwnN B w0 (wr.alloc (.cells #[.pointer (some ⟨b, 0, none⟩)] 57)) (.slice (some ⟨wr.heap.size, 0, none⟩) 1 1) [b] :=
  ⟨World.ownsRow_lit wr #[.pointer (some ⟨b, 0, none⟩)] 1 hB (by unfold maxLen; omega) rfl, h.alloc hB _, Nat.le_trans hB (by simp)⟩
theorem OwnN.told (h : OwnN B w0 wr v bs) (h0 : 0 < bs.length) : ∃ g c, v = .slice (some ⟨g, 0, none⟩) bs.length c ∧ B ≤ g ∧ ∀ (k b : Nat), bs[k]? = some b → wr.cell? ⟨g, k, none⟩ = some (.pointer (some ⟨b, 0, none⟩)) := by
  rcases h.1.2 with ⟨rfl, hn⟩ | ⟨g, cap, cur, rfl, hB, hh, hc, _, _, _⟩
  · omega
  · refine ⟨g, cap, rfl, hB, fun k b hk => ?_⟩
    have := h.1.cells (g := g) rfl k (ptV b) (by simp [hk])
    have hadd : (⟨g, 0, none⟩ : Addr).add k = ⟨g, 0 + k, none⟩ := by unfold Addr.add; split <;> simp_all
    rw [hadd, Nat.zero_add] at this
    exact this
theorem wpList_napp {ops : Array Oper} {rest : List Oper} {o : Oper} {a : Act} {Q : Exit → Act → World → Prop} (hgd : o.guard = none) (s x : Operand)
    (ho : o.op = .call { callee := .builtin .append, args := #[s, x], argTypes := #[71, 71] })
    (hs : a.eval s = v) (hb : OwnN B w0 wr v bs) (g b : Nat) (hx : a.eval x = .slice (some ⟨g, 0, none⟩) 1 1) (hg : wr.cell? ⟨g, 0, none⟩ = some (.pointer (some ⟨b, 0, none⟩))) (hl : bs.length + 1 ≤ 1000000)
    (h : ∀ v' w', OwnN B w0 w' v' (bs ++ [b]) → wpList Tryz.prog ops Q rest (a.put o.dst v') w') : wpList Tryz.prog ops Q (o :: rest) a wr := by
  obtain ⟨i, hi, hz0, hz1, hz2⟩ := info_parts infoP
  obtain ⟨hown, hbel, hB⟩ := hb
  refine wpList_append_own wr hgd s x _ ho B _ i _ 1 8 Tryz.underlying71 hi hz0 hz1 hz2 rfl (by decide) v bs.length _ hs hown ⟨g, 0, none⟩ 1 1 [ptV b] hx rfl ?_ (by intro u hu; simp at hu; subst hu; rfl) (by unfold maxLen; omega) (by omega) hB ?_
  · intro j u hu
    match j, hu with
    | 0, hu =>
      simp at hu
      subst hu
      have hadd : (⟨g, 0, none⟩ : Addr).add 0 = ⟨g, 0 + 0, none⟩ := by unfold Addr.add; split <;> simp_all
      rw [hadd]; exact hg
  · intro v' w' hown' hgr _
    refine h v' w' ⟨?_, ?_, ?_⟩
    · rw [List.length_append, List.map_append]; exact hown'
    · exact hbel.grown hgr hB (fun k hk => (hown.lt k hk).1)
    · exact Nat.le_trans hB hgr.size
end
/-- What path tells of levels that lead to a node. -/
def PathP (w : World) (G : TG) (V : Pth) (e : Ending) (w' : World) : Prop :=
  ∃ g c, e = .returned (.slice (some ⟨g, 0, none⟩) (V.length + 1) c) ∧ w.heap.size ≤ g ∧ Below w.heap.size w w' ∧ ∀ k, k ≤ V.length → ∃ b, G.bl 0 (V.take k) = some b ∧ w'.cell? ⟨g, k, none⟩ = some (.pointer (some ⟨b, 0, none⟩))
section
variable {w w' : World} {t : Nat} {G : TG} {h i : Int} {ps : List Pth}
set_option maxHeartbeats 2000000 in
set_option maxRecDepth 100000 in
theorem path_any (T : TR w t G h i) (V : Pth) (gl cl : Nat) (hs : Strs w (some ⟨gl, 0, none⟩) V.length V) (hV : V.length ≤ 1000) (hB : Hid (∀ y ∈ V, y.length ≤ 1000)) :
    Calls Tryz.prog 49 #[.pointer (some ⟨t, 0, none⟩), .slice (some ⟨gl, 0, none⟩) V.length cl] w fun e w' =>
      (G.bl 0 V ≠ none → PathP w G V e w') ∧ (G.bl 0 V = none → e = .returned (.slice none 0 0) ∧ Below w.heap.size w w') := by
  have HT := Lib.hid T
  have HS := Lib.hid hs
  have hr := T.root
  have HR := Lib.hid hr
  clear T hs hr
  go_enter Tryz.func49, Tryz.ntmps49
  go_wp2_with fail
  go_loopw [5, 6, 8, 16] (fun n v _ i wr => ∃ (j : Nat) (b : Nat) (bs : List Nat), i = .int .i64 j ∧ j ≤ V.length ∧ n = .pointer (some ⟨b, 0, none⟩) ∧ Hid (G.bl 0 (V.take j) = some b) ∧ bs.length = j + 1 ∧ OwnN w.heap.size w wr v bs ∧ Hid (∀ k, k ≤ j → ∃ b, G.bl 0 (V.take k) = some b ∧ bs[k]? = some b)) (fun _ _ _ i _ => V.length - (intOf i).toNat)
  case atStart =>
    refine ⟨0, t, [t], rfl, by omega, rfl, by rw [List.take_zero]; exact HR, rfl, OwnN.lit1 (Below.refl _ _) (Nat.le_refl _) t, fun k hk => ?_⟩
    obtain rfl : k = 0 := by omega
    exact ⟨t, by rw [List.take_zero]; exact HR.out, rfl⟩
  case round =>
    obtain ⟨j, b, bs, rfl, hj, rfl, hb, hbl, hO, hk⟩ := hrel
    have T1 := HT.out.below hO.below
    by_cases hlt : j < V.length
    · obtain ⟨bk, off, y, e9, hy, hcell⟩ := (HS.out.below hO.below).at_ hlt
      cases e9
      rw [Nat.zero_add] at hcell
      have hjI : (j : Int) < (V.length : Int) := by omega
      have hyl := hB.out y (List.mem_of_getElem? hy)
      have htk : V.take (j + 1) = V.take j ++ [y] := by rw [List.take_add_one, hy]; rfl
      obtain ⟨k0, k1, kf⟩ := T1.cell _ b hb.out
      have hkid := T1.kids (V.take j)
      have HTK := Lib.hid htk
      cases hc : G.bl 0 (V.take j ++ [y]) with
      | none =>
        have hlk := hkid.look (l := y) (by unfold maxLen; omega) (v := .pointer none) (by rw [hc]; rfl)
        have HN : Hid (G.bl 0 V = none) := by
          show _ = _
          cases h9 : G.bl 0 V with
          | none => rfl
          | some q =>
            have : G.bl 0 (V.take (j + 1) ++ V.drop (j + 1)) ≠ none := by rw [List.take_append_drop, h9]; simp
            have := HT.out.pre _ _ this
            rw [htk] at this
            exact absurd hc this
        have hbw := hO.below
        clear hkid T1 hy htk hc k1 kf hk hb HTK hbl hO
        go_wp2_with fail
        go_ret
        exact ⟨fun h9 => absurd HN.out h9, fun _ => ⟨rfl, hbw⟩⟩
      | some q =>
        have hlk := hkid.look (l := y) (by unfold maxLen; omega) (v := .pointer (some ⟨q, 0, none⟩)) (by rw [hc]; rfl)
        have HQ : Hid (G.bl 0 (V.take (j + 1)) = some q) := by show _ = _; rw [htk]; exact hc
        have hO1 := hO.alloc (.cells #[.pointer (some ⟨q, 0, none⟩)] 57)
        have hcn : (wr.alloc (.cells #[.pointer (some ⟨q, 0, none⟩)] 57)).cell? ⟨wr.heap.size, 0, none⟩ = some (.pointer (some ⟨q, 0, none⟩)) := by rw [World.cell?_alloc_new]; rfl
        have HCN := Lib.hid hcn
        clear hkid T1 hy htk hc k1 kf hb hcn HTK
        go_wp2_with (at_builtin; refine wpList_napp rfl _ _ rfl rfl hO1 wr.heap.size q rfl HCN.out (by omega) ?_)
        intro v2 w2 hO2
        go_wp2_with fail
        go_roundw
        case rel =>
          refine ⟨j + 1, q, bs ++ [q], by go_num, by omega, rfl, HQ, by simp; omega, hO2, fun k hk1 => ?_⟩
          by_cases hkj : k ≤ j
          · obtain ⟨b1, e1, e2⟩ := hk.out k hkj
            exact ⟨b1, e1, by rw [List.getElem?_append_left (by omega)]; exact e2⟩
          · obtain rfl : k = j + 1 := by omega
            exact ⟨q, HQ.out, by rw [List.getElem?_append_right (by omega), hbl]; simp⟩
        case measure => simp [intOf]; omega
    · obtain rfl : j = V.length := by omega
      have hjI : ¬ (V.length : Int) < (V.length : Int) := by omega
      obtain ⟨g, c, rfl, hg, hcs⟩ := hO.told (by omega)
      have hbw := hO.below
      have HG := Lib.hid hg
      have HCS := Lib.hid hcs
      have HBL := Lib.hid hbl
      clear T1 hO hg hcs hbl
      go_wp2_with fail
      go_ret
      refine ⟨fun _ => ⟨g, c, by rw [← HBL.out]; rfl, HG.out, hbw, fun k hk1 => ?_⟩, fun h9 => ?_⟩
      · obtain ⟨b1, e1, e2⟩ := hk.out k hk1
        exact ⟨b1, e1, HCS.out k b1 e2⟩
      · have := hb.out
        rw [List.take_length, h9] at this; cases this
/-- What prune leaves, L's hints are needed. -/
def PrP (w : World) (t : Nat) (G : TG) (h : Int) (L : List Hn) (e : Ending) (w' : World) : Prop :=
  ∃ G' ps', e = .returned (.tuple #[]) ∧ TR w' t G' h (ps'.length : Nat) ∧ PsOk G' ps' ∧ G'.cl = G.cl ∧ (∀ p ∈ ps', ∃ x ∈ L, p <+: levs x.1) ∧ Outs w w' G.F ∧ ∀ x, G'.F x → G.F x
theorem ps_cut (hP : PsOk G ps) {q : Pth} (hq : q ∈ ps) {G' : TG} (hG : ∀ x, G'.bl 0 x = if x = q then none else G.bl 0 x) : ∃ ps', PsOk G' ps' ∧ ps'.length + 1 = ps.length := by
  refine ⟨ps.erase q, ⟨hP.1.erase q, fun p => ?_⟩, ?_⟩
  · rw [hP.1.mem_erase_iff, hP.2, hG]
    by_cases hp : p = q
    · subst hp; simp
    · simp [hp]
  · rw [List.length_erase_of_mem hq]
    have : 0 < ps.length := List.length_pos_iff.2 (fun e => by rw [e] at hq; cases hq)
    omega
theorem take_inj {V : Pth} {a b : Nat} (ha : a ≤ V.length) (hb : b ≤ V.length) (e : V.take a = V.take b) : a = b := by
  have := congrArg List.length e
  rw [List.length_take, List.length_take] at this
  omega
/-- What stays at the end. -/
theorem prune_end {L : List Hn} {V : Pth} {G1 : TG} {p1 : List Pth} {m : Nat} (hP : PsOk G ps) (hP1 : PsOk G1 p1) (hm : m ≤ V.length) (hcl : ∀ p c, G.cl p c ↔ ∃ x ∈ L, levs x.1 = p ∧ x.2 = c) (ht : ∀ p ∈ ps, (∃ x ∈ L, p <+: levs x.1) ∨ p <+: V)
    (hb : ∀ x, G1.bl 0 x = if m < x.length ∧ x <+: V then none else G.bl 0 x) (hs : m = 0 ∨ (∃ c, G.cl (V.take m) c) ∨ ∃ l, G1.bl 0 (V.take m ++ [l]) ≠ none) : ∀ p ∈ p1, ∃ x ∈ L, p <+: levs x.1 := by
  intro p hp
  obtain ⟨h1, h2⟩ := (hP1.2 p).1 hp
  have h3 := hb p
  split at h3
  · exact absurd h3 h2
  · next hno =>
    rw [h3] at h2
    rcases ht p ((hP.2 p).2 ⟨h1, h2⟩) with h4 | h4
    · exact h4
    · have hpe := List.prefix_iff_eq_take.1 h4
      have hpl := h4.length_le
      have hkm : p.length ≤ m := by
        by_cases hk : p.length ≤ m
        · exact hk
        · exact absurd ⟨by omega, h4⟩ hno
      have hp0 : 0 < p.length := List.length_pos_iff.2 h1
      have hpm : p <+: V.take m := by
        rw [hpe]
        exact (List.take_prefix_take_left hkm)
      rcases hs with h5 | ⟨c, h5⟩ | ⟨l, h5⟩
      · omega
      · obtain ⟨x, hx, e, _⟩ := (hcl _ _).1 h5
        exact ⟨x, hx, by rw [e]; exact hpm⟩
      · have h6 := hb (V.take m ++ [l])
        split at h6
        · exact absurd h6 h5
        · next hno2 =>
          rw [h6] at h5
          rcases ht _ ((hP.2 _).2 ⟨by simp, h5⟩) with ⟨x, hx, h7⟩ | h7
          · exact ⟨x, hx, hpm.trans ((List.prefix_append _ _).trans h7)⟩
          · exfalso
            exact hno2 ⟨by rw [List.length_append, List.length_take, Nat.min_eq_left hm]; simp, h7⟩
set_option maxHeartbeats 4000000 in
set_option maxRecDepth 100000 in
theorem prune_any (L : List Hn) (T : TR w t G h (ps.length : Nat)) (hP : PsOk G ps) (hps : ps.length ≤ 1000000) (V : Pth) (gl cl gp cp : Nat) (hs : Strs w (some ⟨gl, 0, none⟩) V.length V) (hV : V.length ≤ 1000) (hB : Hid (∀ y ∈ V, y.length ≤ 1000)) (hgl : ¬ G.F gl) (hgp : ¬ G.F gp) (hgpl : gp < w.heap.size)
    (hpt : ∀ k, k ≤ V.length → ∃ b, G.bl 0 (V.take k) = some b ∧ w.cell? ⟨gp, k, none⟩ = some (.pointer (some ⟨b, 0, none⟩)))
    (hcl : ∀ p c, G.cl p c ↔ ∃ x ∈ L, levs x.1 = p ∧ x.2 = c) (ht : ∀ p ∈ ps, (∃ x ∈ L, p <+: levs x.1) ∨ p <+: V) :
    Calls Tryz.prog 50 #[.pointer (some ⟨t, 0, none⟩), .slice (some ⟨gp, 0, none⟩) (V.length + 1) cp, .slice (some ⟨gl, 0, none⟩) V.length cl] w fun e w' => PrP w t G h L e w' := by
  have HT := Lib.hid T
  have HS := Lib.hid hs
  have HP := Lib.hid hP
  have HGL := Lib.hid hgl
  have HGP := Lib.hid hgp
  have HPT := Lib.hid hpt
  have HCL := Lib.hid hcl
  have HTI := Lib.hid ht
  have hw0 : IntKind.i64.wrap ((V.length : Int) - 1) = (V.length : Int) - 1 := IntWalk.i64_in _ (by omega)
  clear T hs hP hgl hgp hpt hcl ht
  go_enter Tryz.func50, Tryz.ntmps50
  go_wp2_with fail
  go_loopw [6] (fun i wr => ∃ (m : Nat) (G1 : TG) (p1 : List Pth), i = .int .i64 ((m : Int) - 1) ∧ m ≤ V.length ∧ p1.length ≤ ps.length ∧ TR wr t G1 h (p1.length : Nat) ∧ PsOk G1 p1 ∧ G1.cl = G.cl ∧
      Hid (∀ x, G1.bl 0 x = if m < x.length ∧ x <+: V then none else G.bl 0 x) ∧ Outs w wr G.F ∧ (∀ x, G1.F x → G.F x)) (fun i _ => (intOf i + 1).toNat)
  case atStart =>
    refine ⟨V.length, G, ps, rfl, by omega, by omega, HT.out, HP.out, rfl, fun x => ?_, Outs.refl _ _, fun _ h => h⟩
    rw [if_neg]
    rintro ⟨h1, h2⟩
    have := h2.length_le
    omega
  case round =>
    clear hw0
    obtain ⟨m, G1, p1, rfl, hm, hpl, hT, hP1, hc1, hb1, hU1, hF1⟩ := hrel
    have HT1 := Lib.hid hT
    have HP1 := Lib.hid hP1
    have HC1 := Lib.hid hc1
    have HU1 := Lib.hid hU1
    have HF1 := Lib.hid hF1
    have HCLG : Hid (∀ p c, G1.cl p c ↔ ∃ x ∈ L, levs x.1 = p ∧ x.2 = c) := fun p c => by rw [HC1.out]; exact HCL.out p c
    clear hT hP1 hc1 hU1 hF1
    cases m with
    | zero =>
      have hge : ¬ (0 : Int) ≤ ((0 : Nat) : Int) - 1 := by omega
      go_wp2_with fail
      go_end0
      exact ⟨G1, p1, rfl, HT1.out, HP1.out, HC1.out, prune_end HP.out HP1.out (m := 0) (by omega) HCL.out HTI.out hb1.out (Or.inl rfl), HU1.out, HF1.out⟩
    | succ m =>
      have hge : (0 : Int) ≤ (m : Int) := by omega
      have he1 : ((m + 1 : Nat) : Int) - 1 = (m : Int) := by omega
      have hw1 : IntKind.i64.wrap ((m : Int) + 1) = (m : Int) + 1 := IntWalk.i64_in _ (by omega)
      have hw2 : IntKind.i64.wrap ((m : Int) - 1) = (m : Int) - 1 := IntWalk.i64_in _ (by omega)
      obtain ⟨b1, hn1, hcp⟩ := HPT.out (m + 1) hm
      have hcp1 : wr.cell? ⟨gp, m + 1, none⟩ = some (.pointer (some ⟨b1, 0, none⟩)) := HU1.out.cell _ _ hcp HGP.out
      have hg1 : G1.bl 0 (V.take (m + 1)) = some b1 := by
        rw [hb1.out, if_neg (by rw [List.length_take]; omega)]; exact hn1
      have HG1 := Lib.hid hg1
      obtain ⟨y, hy⟩ : ∃ y, V[m]? = some y := ⟨V[m], List.getElem?_eq_getElem (by omega)⟩
      have htk : V.take (m + 1) = V.take m ++ [y] := by rw [List.take_add_one, hy]; rfl
      have HTK := Lib.hid htk
      have HY := Lib.hid hy
      rw [he1]
      clear hcp hn1 hg1 htk hy he1
      by_cases hbare : (∀ c, ¬ G1.cl (V.take (m + 1)) c) ∧ ∀ l, G1.bl 0 (V.take (m + 1) ++ [l]) = none
      · have HBare := Lib.hid hbare
        obtain ⟨b0, hn0, hcp⟩ := HPT.out m (by omega)
        have hcp0 : wr.cell? ⟨gp, m, none⟩ = some (.pointer (some ⟨b0, 0, none⟩)) := HU1.out.cell _ _ hcp HGP.out
        have hg0 : G1.bl 0 (V.take m) = some b0 := by
          rw [hb1.out, if_neg (by rw [List.length_take]; omega)]; exact hn0
        obtain ⟨_, mm, hmm⟩ := HT1.out.par (p := V.take m) (l := y) (by rw [← HTK.out, HG1.out]; simp)
        obtain ⟨q0, q1, qf⟩ := HT1.out.cell _ b0 hg0
        rw [hmm] at q0
        have hyc : wr.cell? ⟨gl, m, none⟩ = some (.string ⟨y.toArray⟩) := by
          obtain ⟨bk, off, z, e9, hz, hcell⟩ := (HS.out.outs HU1.out (fun b o e => by cases e; exact HGL.out)).at_ (k := m) (by omega)
          cases e9
          rw [HY.out] at hz
          cases hz
          rw [Nat.zero_add] at hcell
          exact hcell
        have hyl := hB.out y (List.mem_of_getElem? HY.out)
        have hKM := HT1.out.kids (V.take m)
        rw [hmm] at hKM
        obtain ⟨w8, hrun, hK8, ht8⟩ := KM.drop (w := wr.drew) (m := mm) (f := fun l => G1.bl 0 (V.take m ++ [l])) hKM (l := y) (by unfold maxLen; omega) 0
        have T8 := (HT1.out.below (Below.refl _ _).drew).cut (w' := w8) (l := y) hmm (fun x => by rw [← HTK.out]; exact HBare.out.2 x) (fun c => by rw [← HTK.out]; exact HBare.out.1 c) hK8 (fun x _ hx => turned_block ht8 x hx)
        have hcut : ∀ x, TG.bl { G1 with bl := fun k q => if q = V.take m ++ [y] then none else G1.bl k q } 0 x = if x = V.take (m + 1) then none else G1.bl 0 x := fun x => by rw [HTK.out]
        obtain ⟨p2, P2, hp2⟩ := ps_cut HP1.out (q := V.take (m + 1)) ((HP1.out.2 _).2 ⟨fun e => by have := congrArg List.length e; rw [List.length_take, List.length_nil] at this; omega, by rw [HG1.out]; simp⟩) hcut
        have hi8 := T8.ic
        have hf8 := (T8.cell [] t T8.root).2.2 3
        have hwr : IntKind.i64.wrap ((p1.length : Int) - 1) = (p1.length : Int) - 1 := IntWalk.i64_in _ (by omega)
        have HT9 : Hid (TR (w8.setCell ⟨t, 3, none⟩ (.int .i64 ((p1.length : Int) - 1))) t { G1 with bl := fun k q => if q = V.take m ++ [y] then none else G1.bl k q } h (p2.length : Nat)) := by
          have := T8.inc ((p1.length : Int) - 1)
          rw [show ((p2.length : Nat) : Int) = (p1.length : Int) - 1 by omega]
          exact this
        have HU8 := Lib.hid (turned_outs (F := fun x => x = mm) ht8 rfl)
        have HMM := Lib.hid hmm
        have HP2 := Lib.hid P2
        have HRun := Lib.hid hrun
        have HB8 : Hid (∀ x, TG.bl { G1 with bl := fun k q => if q = V.take m ++ [y] then none else G1.bl k q } 0 x = if m < x.length ∧ x <+: V then none else G.bl 0 x) := fun x => by
          rw [hcut, hb1.out]
          by_cases hx : x = V.take (m + 1)
          · rw [if_pos hx, if_pos ⟨by rw [hx, List.length_take]; omega, by rw [hx]; exact List.take_prefix _ _⟩]
          · rw [if_neg hx]
            by_cases h1 : m < x.length ∧ x <+: V
            · have h2 := h1.2.length_le
              have h3 := List.prefix_iff_eq_take.1 h1.2
              rw [if_pos ⟨by
                have : x.length ≠ m + 1 := fun e => hx (by rw [h3, e])
                omega, h1.2⟩, if_pos h1]
            · rw [if_neg h1, if_neg (fun h2 => h1 ⟨by omega, h2.2⟩)]
        have hmI : (m : Int) < ((V.length : Int) + 1) := by omega
        have hmV : (m : Int) < (V.length : Int) := by omega
        clear hbare hn0 hcp hg0 q1 qf hKM hrun hK8 ht8 T8 hcut P2 hmm
        go_wp2_with fail
        refine (nBare_eq HT1.out HG1.out true ⟨fun _ => HBare.out, fun _ => rfl⟩).mono ?_
        rintro e w2 ⟨rfl, rfl⟩
        go_wp2_with fail
        have hHeld : Below w2.heap.size w2 w2.drew := (Below.refl _ _).drew
        refine region_last (S := (fun w' => Below w2.heap.size w2 w')) (m := 11) (by kernel_rfl) ?_
        have hLast : LastL .any _ 11 := last_chain (ops := #[oTgRem1, oTgRem2, oTgRem3, oTgRem4, oTgRem5, oTgRem6, oTgRem7, oTgRem8, oTgRem9, oTgRem10, oTgRem11, oTgRem12]) [(6, 11), (5, 6), (4, 5), (3, 4), (2, 3), (0, 2), (1, 2), (10, 11), (9, 10), (7, 9), (8, 9)] (by kernel_rfl)
        refine tkM hLast 0 oTgRem1 ?vv17_80_0 rfl (by kernel_rfl) (by kernel_rfl) (by kernel_rfl) (by rfl) (fun _ _ _ h => h) (by rfl) ?hy17_80_0 (by assumption) ?rest17_80_0
        case hy17_80_0 => (intro w hSw; unfold oTgRem1; (try dsimp only at hSw); (try go_split_ands); go_simp; all_goals with_reducible rfl)
        try simp only [oTgRem1, Act.put, sA, sB, sC]
        refine tkM hLast 1 oTgRem2 ?vv17_80_1 rfl (by kernel_rfl) (by kernel_rfl) (by kernel_rfl) (by rfl) (fun _ _ _ h => h) (by rfl) ?hy17_80_1 (by assumption) ?rest17_80_1
        case hy17_80_1 => (intro w hSw; unfold oTgRem2; (try dsimp only at hSw); (try go_split_ands); go_simp; all_goals with_reducible rfl)
        try simp only [oTgRem2, Act.put, sA, sB, sC]
        refine tkM hLast 7 oTgRem8 ?vv17_80_7 rfl (by kernel_rfl) (by kernel_rfl) (by kernel_rfl) (by rfl) (fun _ _ _ h => h) (by rfl) ?hy17_80_7 (by assumption) ?rest17_80_7
        case hy17_80_7 => (intro w hSw; unfold oTgRem8; (try dsimp only at hSw); (try go_split_ands); go_simp; all_goals with_reducible rfl)
        try simp only [oTgRem8, Act.put, sA, sB, sC]
        refine tkM hLast 8 oTgRem9 ?vv17_80_8 rfl (by kernel_rfl) (by kernel_rfl) (by kernel_rfl) (by rfl) (fun _ _ _ h => h) (by rfl) ?hy17_80_8 (by assumption) ?rest17_80_8
        case hy17_80_8 => (intro w hSw; unfold oTgRem9; (try dsimp only at hSw); (try go_split_ands); go_simp; all_goals with_reducible rfl)
        try simp only [oTgRem9, Act.put, sA, sB, sC]
        refine tkM hLast 2 oTgRem3 ?vv17_80_2 rfl (by kernel_rfl) (by kernel_rfl) (by kernel_rfl) (by rfl) (fun _ _ _ h => h) (by rfl) ?hy17_80_2 (by assumption) ?rest17_80_2
        case hy17_80_2 => (intro w hSw; unfold oTgRem3; (try dsimp only at hSw); (try go_split_ands); go_simp; all_goals with_reducible rfl)
        try simp only [oTgRem3, Act.put, sA, sB, sC]
        refine tkM hLast 9 oTgRem10 ?vv17_80_9 rfl (by kernel_rfl) (by kernel_rfl) (by kernel_rfl) (by rfl) (fun _ _ _ h => h) (by rfl) ?hy17_80_9 (by assumption) ?rest17_80_9
        case hy17_80_9 => (intro w hSw; unfold oTgRem10; (try dsimp only at hSw); (try go_split_ands); go_simp; all_goals with_reducible rfl)
        try simp only [oTgRem10, Act.put, sA, sB, sC]
        refine tkM hLast 3 oTgRem4 ?vv17_81_3 rfl (by kernel_rfl) (by kernel_rfl) (by kernel_rfl) (by rfl) (fun _ _ _ h => h) (by rfl) ?hy17_81_3 (by assumption) ?rest17_81_3
        case hy17_81_3 => (intro w hSw; unfold oTgRem4; (try dsimp only at hSw); have q := (hSw.cell (World.block_lt_of_cell? _ _ hcp0)).trans hcp0; clear hSw; go_simp; all_goals with_reducible rfl)
        try simp only [oTgRem4, Act.put, sA, sB, sC]
        refine tkM hLast 4 oTgRem5 ?vv17_82_4 rfl (by kernel_rfl) (by kernel_rfl) (by kernel_rfl) (by rfl) (fun _ _ _ h => h) (by rfl) ?hy17_82_4 (by assumption) ?rest17_82_4
        case hy17_82_4 => (intro w hSw; unfold oTgRem5; (try dsimp only at hSw); (try go_split_ands); go_simp; all_goals with_reducible rfl)
        try simp only [oTgRem5, Act.put, sA, sB, sC]
        refine tkM hLast 5 oTgRem6 ?vv17_82_5 rfl (by kernel_rfl) (by kernel_rfl) (by kernel_rfl) (by rfl) (fun _ _ _ h => h) (by rfl) ?hy17_82_5 (by assumption) ?rest17_82_5
        case hy17_82_5 => (intro w hSw; unfold oTgRem6; (try dsimp only at hSw); (try go_split_ands); go_simp; all_goals with_reducible rfl)
        try simp only [oTgRem6, Act.put, sA, sB, sC]
        refine tkM hLast 6 oTgRem7 ?vv17_83_6 rfl (by kernel_rfl) (by kernel_rfl) (by kernel_rfl) (by rfl) (fun _ _ _ h => h) (by rfl) ?hy17_83_6 (by assumption) ?rest17_83_6
        case hy17_83_6 => (intro w hSw; unfold oTgRem7; (try dsimp only at hSw); have q := (hSw.cell (World.block_lt_of_cell? _ _ q0)).trans q0; clear hSw; go_simp; all_goals with_reducible rfl)
        try simp only [oTgRem7, Act.put, sA, sB, sC]
        refine tkM hLast 10 oTgRem11 ?vv17_84_10 rfl (by kernel_rfl) (by kernel_rfl) (by kernel_rfl) (by rfl) (fun _ _ _ h => h) (by rfl) ?hy17_84_10 (by assumption) ?rest17_84_10
        case hy17_84_10 => (intro w hSw; unfold oTgRem11; (try dsimp only at hSw); have q := (hSw.cell (World.block_lt_of_cell? _ _ hyc)).trans hyc; clear hSw; go_simp; all_goals with_reducible rfl)
        try simp only [oTgRem11, Act.put, sA, sB, sC]
        refine anyM_ready (rs := [11]) (by kernel_rfl) (by simp) ?_
        refine (AllM.cons (o := oTgRem12) rfl (fun K hK => ?_) AllM.nil)
        (refine step_del rfl _ _ _ _ rfl rfl rfl HRun.out ?_)
        refine hK.out _ _ (fun hne => absurd rfl hne) ?_
        clear hK K
        try simp only [oTgRem12, Act.put, sA, sB, sC]
        refine anyM_done (by kernel_rfl) ?_ _
        clear hHeld
        go_wp2_with fail
        go_roundw
        case rel =>
          refine ⟨m, _, p2, rfl, by omega, by omega, HT9.out, HP2.out, HC1.out, HB8.out, ?_, ?_⟩
          · refine Outs.setCell ?_ t 3 HT.out.fr _
            exact ((HU1.out.more (Below.refl _ _).drew).trans HU8.out (fun x _ e => by rw [e]; exact HF1.out _ ⟨1, _, HMM.out⟩))
          · rintro x ⟨k, q, hx⟩
            refine HF1.out x ⟨k, q, ?_⟩
            dsimp only at hx
            split at hx
            · cases hx
            · exact hx
        case measure => simp [intOf]
      · have HNB := Lib.hid hbare
        have HST : Hid ((∃ c, G.cl (V.take (m + 1)) c) ∨ ∃ l, G1.bl 0 (V.take (m + 1) ++ [l]) ≠ none) := by
          show _ ∨ _
          by_cases h1 : ∃ c, G1.cl (V.take (m + 1)) c
          · left; rw [← HC1.out]; exact h1
          · right
            by_cases h2 : ∃ l, G1.bl 0 (V.take (m + 1) ++ [l]) ≠ none
            · exact h2
            · exact absurd ⟨fun c hc => h1 ⟨c, hc⟩, fun l => by
                cases h9 : G1.bl 0 (V.take (m + 1) ++ [l]) with
                | none => rfl
                | some z => exact absurd ⟨l, by rw [h9]; simp⟩ h2⟩ hbare
        clear hbare
        go_wp2_with fail
        refine (nBare_eq HT1.out HG1.out false ⟨fun e => (by cases e), fun e => absurd e HNB.out⟩).mono ?_
        rintro e w2 ⟨rfl, rfl⟩
        go_wp2_with fail
        go_end0
        exact ⟨G1, p1, rfl, HT1.out, HP1.out, HC1.out, prune_end HP.out HP1.out hm HCL.out HTI.out hb1.out (Or.inr HST.out), HU1.out, HF1.out⟩
theorem wpList_del {P : Program} {ops : Array Oper} {rest : List Oper} {o : Oper} {a : Act} {Q : Exit → Act → World → Prop} {w w' : World} (hgd : o.guard = none) (t k : TypeId) (m x : Operand) (ho : o.op = Op.call { callee := Callee.builtin Builtin.delete, args := #[m, x], argTypes := #[t, k] }) {mv kv : Value} (hm : a.eval m = mv) (hx : a.eval x = kv)
    (hrun : (Builtin.delete_ #[t, k] o.type #[mv, kv]).run P w = .ok (.tuple #[]) w') (h : wpList P ops Q rest (a.put o.dst (.tuple #[])) w') : wpList P ops Q (o :: rest) a w := by
  refine wpList_plain hgd fun K' hK' => ?_
  unfold Oper.wp
  simp [execOp, ho, resolve, invoke, builtin, hm, hx, hrun, Result.andThen]
  exact hK' _ _ h
variable {L : List Hn}
theorem rem_no {x : Hn} (h : x ∉ L) : remL L x = L ∧ remB L x = false := by
  have e : remL L x = L := by
    unfold remL
    rw [List.filter_eq_self]
    intro y hy
    simp
    rintro rfl
    exact h hy
  refine ⟨e, ?_⟩
  unfold remB
  rw [e]; simp
theorem rem_in {x : Hn} (hn : L.Nodup) (h : x ∈ L) : (remL L x).length + 1 = L.length ∧ remB L x = true := by
  refine ⟨?_, by rw [rem_mem]; exact List.contains_iff_mem.2 h⟩
  have h1 : remL L x = L.erase x := by
    unfold remL
    rw [hn.erase_eq_filter]
  rw [h1, List.length_erase_of_mem h]
  have : 0 < L.length := List.length_pos_iff.2 (fun e => by rw [e] at h; cases h)
  omega
set_option maxHeartbeats 4000000 in
set_option maxRecDepth 100000 in
theorem gRem_any (hG : Glo w) (hP : PTG w t G ps L) (hS : Srt ahB L) (hL : L.length ≤ 100) (hLl : ∀ x ∈ L, x.1.length ≤ 300) (f c : List UInt8) (M : List Hn) (r : Bool) (hf : f.length ≤ 300) (hc : c.length ≤ 300) (hM : remL L (f, c) = M) (hr : remB L (f, c) = r) :
    Calls Tryz.prog 21 #[.pointer (some ⟨t, 0, none⟩), .string ⟨f.toArray⟩, .string ⟨c.toArray⟩] w fun e w' => GP w t G M r e w' := by
  have hpl := hP.psl hL hLl
  have hvl := levs_len f
  have HB : Hid (∀ y ∈ levs f, y.length ≤ 1000) := fun y hy => Nat.le_trans (levs_bd f y hy) (by omega)
  obtain ⟨V, hV⟩ : ∃ V, levs f = V := ⟨_, rfl⟩
  have hv0 : 0 < V.length := by rw [← hV]; exact levs_pos f
  rw [hV] at hvl HB
  have HV := Lib.hid hV
  have HG := Lib.hid hG
  have HP := Lib.hid hP
  have HM := Lib.hid hM
  have HR := Lib.hid hr
  have HMem : Hid ((f, c) ∈ L ↔ G.cl V c) := by
    show _ ↔ _
    rw [hP.2.2.1]
    refine ⟨fun h => ⟨_, h, hV, rfl⟩, ?_⟩
    rintro ⟨⟨a, b⟩, hx, e1, e2⟩
    dsimp only at e1 e2
    obtain rfl := levs_inj (e1.trans hV.symm)
    subst e2
    exact hx
  have hnd := srt_nodup ah_ord L hS
  have HND := Lib.hid hnd
  clear hG hV hM hr hnd
  go_enter Tryz.func21, Tryz.ntmps21
  go_wp2_with fail
  refine (tpLevels_eq f V w HG.out (by omega) HV.out).mono ?_
  rintro e w1 ⟨gl, cl, rfl, _, hsl, hb1⟩
  have T1 : TR w1 t G _ _ := hP.1.below hb1
  have hgl : ¬ G.F gl := by
    obtain ⟨b, o, x, e, hx, hcx⟩ := hsl.at_ (k := 0) hv0
    cases e
    exact T1.no_str hcx
  have HSL := Lib.hid hsl
  have HT1 := Lib.hid T1
  have HBW := Lib.hid hb1
  have HGL := Lib.hid hgl
  clear hP hsl hgl T1
  go_wp2_with fail
  refine (path_any HT1.out V gl cl HSL.out (by omega) HB).mono ?_
  rintro e w2 ⟨hy2, hn2⟩
  by_cases h0 : G.bl 0 V = none
  · obtain ⟨rfl, hb2⟩ := hn2 h0
    have hno : (f, c) ∉ L := fun h => HT1.out.no_cl h0 c (HMem.out.1 h)
    obtain ⟨e1, e2⟩ := rem_no hno
    have hMM := HM.out; have hRR := HR.out
    rw [e1] at hMM; rw [e2] at hRR
    subst hMM hRR
    have hbw := below_more hb1 hb2
    clear hy2 hn2 e1 e2 h0 hno
    go_wp2_with fail
    go_ret
    exact ⟨G, ps, rfl, HP.out.keep fun b hb => hbw.block b (HP.out.1.lt b hb), Outs.of_below hbw, fun x hx => Or.inl hx⟩
  · obtain ⟨gp, cp, rfl, hgp, hb2, hpt⟩ := hy2 h0
    obtain ⟨b, hb0, hcp⟩ := hpt V.length (Nat.le_refl _)
    rw [List.take_length] at hb0
    have HB0 := Lib.hid hb0
    have T2 := HT1.out.below hb2
    have HT2 := Lib.hid T2
    have hbw := below_more hb1 hb2
    have HBW2 := Lib.hid hbw
    have HPT := Lib.hid hpt
    have HGP : Hid (w1.heap.size ≤ gp) := hgp
    have hne : ((V.length : Int) + 1 == 0) = false := by simp; omega
    have hw1 : IntKind.i64.wrap ((V.length : Int) + 1 - 1) = (V.length : Int) := by rw [IntWalk.i64_in _ (by omega)]; omega
    have hltI : (V.length : Int) < (V.length : Int) + 1 := by omega
    clear hn2 hy2 h0 hb0 T2 hbw hpt hgp
    go_wp2_with fail
    cases hrr : r with
    | false =>
      have hno : (f, c) ∉ L := fun h => by
        have := (rem_in HND.out h).2
        rw [HR.out, hrr] at this; cases this
      have HNC : Hid (¬ G.cl V c) := fun h => hno (HMem.out.2 h)
      obtain ⟨e1, _⟩ := rem_no hno
      have hMM := HM.out
      rw [e1] at hMM
      subst hMM
      clear hno e1
      subst hrr
      refine (nHas_eq HT2.out HB0.out c false (by unfold maxLen; omega) ⟨fun e => (by cases e), fun e => absurd e HNC.out⟩).mono ?_
      rintro e w3 ⟨rfl, hb3⟩
      have hbw := below_more HBW2.out hb3
      go_wp2_with fail
      go_ret
      exact ⟨G, ps, rfl, HP.out.keep fun b hb => hbw.block b (HP.out.1.lt b hb), Outs.of_below hbw, fun x hx => Or.inl hx⟩
    | true =>
      have hin : (f, c) ∈ L := by
        rw [← List.contains_iff_mem, ← rem_mem, HR.out, hrr]
      obtain ⟨hlen, _⟩ := rem_in HND.out hin
      have hclc := HMem.out.1 hin
      have hMm : ∀ x, x ∈ M ↔ x ∈ L ∧ x ≠ (f, c) := fun x => by
        rw [← HM.out]
        unfold remL
        rw [List.mem_filter]
        simp
      rw [HM.out] at hlen
      have HMm := Lib.hid hMm
      have HCC := Lib.hid hclc
      clear hin hMm hclc
      subst hrr
      refine (nHas_eq HT2.out HB0.out c true (by unfold maxLen; omega) ⟨fun _ => HCC.out, fun _ => rfl⟩).mono ?_
      rintro e w3 ⟨rfl, hb3⟩
      have T3 := HT2.out.below hb3
      obtain ⟨q0, q1, qf⟩ := T3.cell V b HB0.out
      have hck := T3.clis V
      cases hm2 : G.bl 2 V with
      | none => rw [hm2] at hck; exact absurd HCC.out (hck c)
      | some mm =>
        rw [hm2] at hck q1
        obtain ⟨w4, hrun, hC4, ht4⟩ := CM.drop hck (l := c) (by unfold maxLen; omega) 0
        have T4 := T3.cset (w' := w4) hm2 hC4 (fun x _ hx => turned_block ht4 x hx)
        have hh := T4.hc
        have hff := (T4.cell [] t T4.root).2.2 2
        have hwr : IntKind.i64.wrap ((L.length : Int) - 1) = (M.length : Int) := by rw [IntWalk.i64_in _ (by omega)]; omega
        have T5 := T4.hin (M.length : Int)
        have HT5 := Lib.hid T5
        have hU4 : Outs w w4 G.F := (Outs.of_below (below_more HBW2.out hb3)).trans (turned_outs (F := fun x => x = mm) ht4 rfl) (fun x _ e => by rw [e]; exact ⟨2, V, hm2⟩)
        have hU5 := hU4.setCell t 2 HP.out.1.fr (.int .i64 (M.length : Int))
        have hUU : Outs w1 (w4.setCell ⟨t, 2, none⟩ (.int .i64 (M.length : Int))) G.F := ((Outs.of_below (below_more hb2 hb3)).trans (turned_outs (F := fun x => x = mm) ht4 rfl) (fun x _ e => by rw [e]; exact ⟨2, V, hm2⟩)).setCell t 2 HP.out.1.fr _
        have hgpF : ¬ G.F gp := fun e => by have := HT1.out.lt _ e; have := HGP.out; omega
        have hUG : Outs w2 (w4.setCell ⟨t, 2, none⟩ (.int .i64 (M.length : Int))) G.F := ((Outs.of_below hb3).trans (turned_outs (F := fun x => x = mm) ht4 rfl) (fun x _ e => by rw [e]; exact ⟨2, V, hm2⟩)).setCell t 2 HP.out.1.fr _
        have HSL5 := Lib.hid (HSL.out.outs hUU (fun b o e => by cases e; exact HGL.out))
        have HPT5 : Hid (∀ k, k ≤ V.length → ∃ b, G.bl 0 (V.take k) = some b ∧ (w4.setCell ⟨t, 2, none⟩ (.int .i64 (M.length : Int))).cell? ⟨gp, k, none⟩ = some (.pointer (some ⟨b, 0, none⟩))) := fun k hk => by
          obtain ⟨b1, e1, e2⟩ := HPT.out k hk
          exact ⟨b1, e1, hUG.cell _ _ e2 hgpF⟩
        have HGPL : Hid (gp < (w4.setCell ⟨t, 2, none⟩ (.int .i64 (M.length : Int))).heap.size) := Nat.lt_of_lt_of_le (World.block_lt_of_cell? _ _ hcp) hUG.size
        have HCLS : Hid (∀ p x, (if p = V then (G.cl V x ∧ x ≠ c) else G.cl p x) ↔ ∃ y ∈ M, levs y.1 = p ∧ y.2 = x) := fun p x => by
          by_cases hp : p = V
          · subst hp
            rw [if_pos rfl, HP.out.2.2.1]
            constructor
            · rintro ⟨⟨y, hy, e1, e2⟩, hne⟩
              exact ⟨y, (HMm.out y).2 ⟨hy, fun e => hne (by rw [← e2, e])⟩, e1, e2⟩
            · rintro ⟨y, hy, e1, e2⟩
              obtain ⟨h1, h2⟩ := (HMm.out y).1 hy
              refine ⟨⟨y, h1, e1, e2⟩, fun e => h2 ?_⟩
              exact Prod.ext (levs_inj (e1.trans HV.out.symm)) (e2.trans e)
          · rw [if_neg hp, HP.out.2.2.1]
            constructor
            · rintro ⟨y, hy, e1, e2⟩
              exact ⟨y, (HMm.out y).2 ⟨hy, fun e => hp (by rw [← e1, e]; exact HV.out)⟩, e1, e2⟩
            · rintro ⟨y, hy, e1, e2⟩
              exact ⟨y, ((HMm.out y).1 hy).1, e1, e2⟩
        have HTT : Hid (∀ p ∈ ps, (∃ x ∈ M, p <+: levs x.1) ∨ p <+: V) := fun p hp => by
          obtain ⟨x, hx, h1⟩ := HP.out.2.2.2.1 p hp
          by_cases e : x = (f, c)
          · right; rw [e] at h1; rw [← HV.out]; exact h1
          · exact Or.inl ⟨x, (HMm.out x).2 ⟨hx, e⟩, h1⟩
        have HU5 := Lib.hid hU5
        have HRun := Lib.hid hrun
        clear hU5 hUU hUG hU4 T3 T4 T5 hck hC4 ht4 hrun q0 qf hcp
        go_wp2_with (at_delete; refine wpList_del rfl _ _ _ _ rfl rfl rfl HRun.out ?_)
        go_wp2_with fail
        refine (prune_any M HT5.out ⟨HP.out.2.1.1, HP.out.2.1.2⟩ (by omega) V gl cl gp cp HSL5.out (by omega) HB HGL.out hgpF HGPL.out HPT5.out HCLS.out HTT.out).mono ?_
        rintro e w6 ⟨G6, p6, rfl, T6, P6, hc6, ht6, hU6, hF6⟩
        go_wp2_with fail
        go_ret
        refine ⟨G6, p6, rfl, ⟨T6, P6, fun p x => by rw [hc6]; exact HCLS.out p x, ht6, fun x hx => HP.out.2.2.2.2 x ((HMm.out x).1 hx).1⟩, HU5.out.trans hU6 (fun x _ h => h), fun x hx => Or.inl (hF6 x hx)⟩
end
end Go.Proofs.YtipdmfnkkkdlbaaGreatDoor
