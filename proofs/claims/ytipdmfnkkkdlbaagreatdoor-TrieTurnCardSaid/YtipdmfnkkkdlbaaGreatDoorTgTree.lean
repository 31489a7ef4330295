/-
  trie: the program's tree in memory, by the paths of levels that lead to its nodes: a node's block, the blocks of its two maps; what each step of a call leaves.
-/
import Derived.Test.YtipdmfnkkkdlbaaGreatDoorTgMap
set_option linter.unusedSimpArgs false
set_option linter.unusedVariables false
namespace Go.Proofs.YtipdmfnkkkdlbaaGreatDoor
open Go.RowKit Go.Maps

/-- bl 0: a node's block; bl 1: its children's map; bl 2: its clients' map. -/
structure TG where
  bl : Nat → Pth → Option Nat
  cl : Pth → List UInt8 → Prop
def TG.F (G : TG) (b : Nat) : Prop := ∃ k p, G.bl k p = some b
def MKo (w : World) (o : Option Nat) (f : List UInt8 → Option Nat) : Prop := match o with
  | none => ∀ l, f l = none
  | some m => KM w m f
def MCo (w : World) (o : Option Nat) (s : List UInt8 → Prop) : Prop := match o with
  | none => ∀ l, ¬ s l
  | some m => CM w m s
section
variable {w w' : World} {o : Option Nat} {f : List UInt8 → Option Nat} {s : List UInt8 → Prop}
theorem MKo.keep (h : MKo w o f) (e : ∀ m, o = some m → w'.heap[m]? = w.heap[m]?) : MKo w' o f := by
  cases o with
  | none => exact h
  | some m => exact KM.keep h (e m rfl)
theorem MCo.keep (h : MCo w o s) (e : ∀ m, o = some m → w'.heap[m]? = w.heap[m]?) : MCo w' o s := by
  cases o with
  | none => exact h
  | some m => exact CM.keep h (e m rfl)
theorem MKo.congr {g : List UInt8 → Option Nat} (h : MKo w o f) (e : ∀ l, f l = g l) : MKo w o g := by
  cases o with
  | none => exact fun l => (e l).symm.trans (h l)
  | some m => exact KM.congr h e
theorem MCo.congr {g : List UInt8 → Prop} (h : MCo w o s) (e : ∀ l, s l ↔ g l) : MCo w o g := by
  cases o with
  | none => exact fun l hl => h l ((e l).2 hl)
  | some m => exact CM.congr h e
theorem MKo.look (h : MKo w o f) {l : List UInt8} (hl : l.length ≤ maxLen) {v : Value} (hv : ptrO (f l) = v) :
    (Instr.lookup 49 (.map o) (.string ⟨l.toArray⟩) false).run Tryz.prog w = .ok v w := by
  cases o with
  | none => rw [klook_nil w hl, ← hv, h l]; rfl
  | some m => exact KM.look h hl hv
theorem MCo.look (h : MCo w o s) {l : List UInt8} (hl : l.length ≤ maxLen) {r : Bool} (hr : r = true ↔ s l) :
    (Instr.lookup 51 (.map o) (.string ⟨l.toArray⟩) true).run Tryz.prog w = .ok (.tuple #[.agg #[], .bool r]) w := by
  cases o with
  | none =>
    have : r = false := by
      cases r with
      | false => rfl
      | true => exact absurd (hr.1 rfl) (h l)
    rw [clook_nil w hl, this]
  | some m => exact CM.look h hl hr
theorem MKo.len (h : MKo w o f) : ∃ k : Nat, (∀ ty, (Builtin.len_ #[49] ty #[.map o]).run Tryz.prog w = .ok (.int .i64 k) w) ∧ (k = 0 ↔ ∀ l, f l = none) := by
  cases o with
  | none => exact ⟨0, fun ty => klen_nil w ty, ⟨fun _ => h, fun _ => rfl⟩⟩
  | some m => exact KM.len h
theorem MCo.len (h : MCo w o s) : ∃ k : Nat, (∀ ty, (Builtin.len_ #[51] ty #[.map o]).run Tryz.prog w = .ok (.int .i64 k) w) ∧ (k = 0 ↔ ∀ l, ¬ s l) := by
  cases o with
  | none => exact ⟨0, fun ty => clen_nil w ty, ⟨fun _ => h, fun _ => rfl⟩⟩
  | some m => exact CM.len h
end
structure TR (w : World) (t : Nat) (G : TG) (h i : Int) : Prop where
  root : G.bl 0 [] = some t
  non : ∀ p, G.bl 0 p = none → G.bl 1 p = none ∧ G.bl 2 p = none
  k3 : ∀ k p b, G.bl k p = some b → k < 3
  uniq : ∀ k p j q b, G.bl k p = some b → G.bl j q = some b → k = j ∧ p = q
  cell : ∀ p b, G.bl 0 p = some b → w.cell? ⟨b, 0, none⟩ = some (.map (G.bl 1 p)) ∧ w.cell? ⟨b, 1, none⟩ = some (.map (G.bl 2 p)) ∧ ∀ i, w.frozen? ⟨b, i, none⟩ = false
  kids : ∀ p, MKo w (G.bl 1 p) fun l => G.bl 0 (p ++ [l])
  clis : ∀ p, MCo w (G.bl 2 p) (G.cl p)
  hc : w.cell? ⟨t, 2, none⟩ = some (.int .i64 h)
  ic : w.cell? ⟨t, 3, none⟩ = some (.int .i64 i)
def upd (f : Nat → Pth → Option Nat) (k : Nat) (p : Pth) (v : Option Nat) : Nat → Pth → Option Nat := fun k' p' => if k' = k ∧ p' = p then v else f k' p'
theorem upd_same (f : Nat → Pth → Option Nat) (k : Nat) (p : Pth) (v : Option Nat) : upd f k p v k p = v := by simp [upd]
theorem upd_k (f : Nat → Pth → Option Nat) {k j : Nat} (p q : Pth) (v : Option Nat) (h : j ≠ k) : upd f k p v j q = f j q := by simp [upd, h]
theorem upd_p (f : Nat → Pth → Option Nat) (k j : Nat) {p q : Pth} (v : Option Nat) (h : q ≠ p) : upd f k p v j q = f j q := by simp [upd, h]
theorem snoc_inj {p q : Pth} {x y : List UInt8} (h : p ++ [x] = q ++ [y]) : p = q ∧ x = y := by
  have := List.append_inj' h rfl
  exact ⟨this.1, by simpa using this.2⟩
theorem snoc_ne (p : Pth) (x : List UInt8) : p ++ [x] ≠ p := fun e => by
  have := congrArg List.length e
  simp at this
section
variable {w w' : World} {t : Nat} {G : TG} {h i : Int}
theorem TR.lt (T : TR w t G h i) : ∀ b, G.F b → b < w.heap.size := by
  rintro b ⟨k, p, hb⟩
  have hk := T.k3 k p b hb
  match k, hk with
  | 0, _ => exact World.block_lt_of_cell? _ _ (T.cell p b hb).1
  | 1, _ => have := T.kids p; rw [hb] at this; exact KM.lt this
  | 2, _ => have := T.clis p; rw [hb] at this; exact CM.lt this
theorem TR.fr (T : TR w t G h i) : G.F t := ⟨0, [], T.root⟩
theorem TR.keep (T : TR w t G h i) (e : ∀ b, G.F b → w'.heap[b]? = w.heap[b]?) : TR w' t G h i where
  root := T.root
  non := T.non
  k3 := T.k3
  uniq := T.uniq
  cell p b hb := by
    have he := e b ⟨0, p, hb⟩
    obtain ⟨h1, h2, h3⟩ := T.cell p b hb
    exact ⟨(World.cell?_of_block he).trans h1, (World.cell?_of_block he).trans h2, fun i => (World.frozen?_of_block he).trans (h3 i)⟩
  kids p := (T.kids p).keep fun m hm => e m ⟨1, p, hm⟩
  clis p := (T.clis p).keep fun m hm => e m ⟨2, p, hm⟩
  hc := (World.cell?_of_block (e t T.fr)).trans T.hc
  ic := (World.cell?_of_block (e t T.fr)).trans T.ic
theorem TR.below (T : TR w t G h i) (hb : Below w.heap.size w w') : TR w' t G h i := T.keep fun b hf => hb.block b (T.lt b hf)
theorem TR.outs {F : Nat → Prop} (T : TR w t G h i) (hU : Outs w w' F) (hF : ∀ b, F b → ¬ G.F b) : TR w' t G h i := T.keep fun b hf => hU.block b (T.lt b hf) (fun hb => hF b hb hf)
theorem TR.par (T : TR w t G h i) {p : Pth} {l : List UInt8} (hp : G.bl 0 (p ++ [l]) ≠ none) : G.bl 0 p ≠ none ∧ ∃ m, G.bl 1 p = some m := by
  have hk := T.kids p
  cases h1 : G.bl 1 p with
  | none => rw [h1] at hk; exact absurd (hk l) hp
  | some m => exact ⟨fun e => (by rw [(T.non p e).1] at h1; cases h1), m, rfl⟩
theorem TR.pre (T : TR w t G h i) (p : Pth) : ∀ q : Pth, G.bl 0 (p ++ q) ≠ none → G.bl 0 p ≠ none := by
  refine snoc_ind (by simp) ?_
  intro q x ih hq
  rw [← List.append_assoc] at hq
  exact ih (T.par hq).1
theorem TR.no_cl (T : TR w t G h i) {p : Pth} (hp : G.bl 0 p = none) (c : List UInt8) : ¬ G.cl p c := by
  have := T.clis p
  rw [(T.non p hp).2] at this
  exact this c
/-- A map for the children of a node that had none. -/
theorem TR.kmake (T : TR w t G h i) {p : Pth} {b m : Nat} (hp : G.bl 0 p = some b) (h1 : G.bl 1 p = none) (hm : ¬ G.F m) (hK : KM w' m fun _ => none)
    (hc0 : w'.cell? ⟨b, 0, none⟩ = some (.map (some m))) (hci : ∀ j, j ≠ 0 → w'.cell? ⟨b, j, none⟩ = w.cell? ⟨b, j, none⟩) (hcf : ∀ j, w'.frozen? ⟨b, j, none⟩ = false) (e : ∀ c, G.F c → c ≠ b → w'.heap[c]? = w.heap[c]?) :
    TR w' t { G with bl := upd G.bl 1 p (some m) } h i where
  root := by dsimp only; rw [upd_k _ _ _ _ (by decide)]; exact T.root
  non q hq := by
    try dsimp only at *
    rw [upd_k _ _ _ _ (by decide)] at hq
    have hqp : q ≠ p := fun e => by rw [e, hp] at hq; cases hq
    rw [upd_p _ _ _ _ hqp, upd_p _ _ _ _ hqp]
    exact T.non q hq
  k3 k q c hq := by
    try dsimp only at *
    unfold upd at hq
    split at hq
    · next hk => omega
    · exact T.k3 k q c hq
  uniq k q j r c hq hr := by
    try dsimp only at *
    unfold upd at hq hr
    split at hq <;> split at hr
    · next h1 h2 => exact ⟨h1.1.trans h2.1.symm, h1.2.trans h2.2.symm⟩
    · cases hq; exact absurd ⟨j, r, hr⟩ hm
    · cases hr; exact absurd ⟨k, q, hq⟩ hm
    · exact T.uniq k q j r c hq hr
  cell q c hq := by
    try dsimp only at *
    rw [upd_k _ _ _ _ (by decide)] at hq
    rw [upd_k _ _ _ _ (show (2 : Nat) ≠ 1 by decide)]
    obtain ⟨k1, k2, k3⟩ := T.cell q c hq
    by_cases hcb : c = b
    · subst hcb
      obtain ⟨_, rfl⟩ := T.uniq 0 q 0 p c hq hp
      exact ⟨by rw [upd_same]; exact hc0, (hci 1 (by decide)).trans k2, hcf⟩
    · have hqp : q ≠ p := fun e => hcb (by rw [e, hp] at hq; cases hq; rfl)
      have he := e c ⟨0, q, hq⟩ hcb
      rw [upd_p _ _ _ _ hqp]
      exact ⟨(World.cell?_of_block he).trans k1, (World.cell?_of_block he).trans k2, fun i => (World.frozen?_of_block he).trans (k3 i)⟩
  kids q := by
    try dsimp only at *
    by_cases hqp : q = p
    · subst hqp
      rw [upd_same]
      refine KM.congr hK fun l => ?_
      rw [upd_k _ _ _ _ (by decide)]
      have := T.kids q
      rw [h1] at this
      exact (this l).symm
    · rw [upd_p _ _ _ _ hqp]
      refine ((T.kids q).keep fun m1 hm1 => e m1 ⟨1, q, hm1⟩ (fun eb => ?_)).congr fun l => by rw [upd_k _ _ _ _ (by decide)]
      subst eb
      exact absurd (T.uniq 1 q 0 p m1 hm1 hp).1 (by decide)
  clis q := by
    try dsimp only at *
    rw [upd_k _ _ _ _ (by decide)]
    refine (T.clis q).keep fun m1 hm1 => e m1 ⟨2, q, hm1⟩ (fun eb => ?_)
    subst eb
    exact absurd (T.uniq 2 q 0 p m1 hm1 hp).1 (by decide)
  hc := by
    try dsimp only at *
    by_cases htb : t = b
    · subst htb; exact (hci 2 (by decide)).trans T.hc
    · exact (World.cell?_of_block (e t T.fr htb)).trans T.hc
  ic := by
    try dsimp only at *
    by_cases htb : t = b
    · subst htb; exact (hci 3 (by decide)).trans T.ic
    · exact (World.cell?_of_block (e t T.fr htb)).trans T.ic
/-- .. for its clients. -/
theorem TR.cmake (T : TR w t G h i) {p : Pth} {b m : Nat} (hp : G.bl 0 p = some b) (h1 : G.bl 2 p = none) (hm : ¬ G.F m) (hK : CM w' m fun _ => False)
    (hc0 : w'.cell? ⟨b, 1, none⟩ = some (.map (some m))) (hci : ∀ j, j ≠ 1 → w'.cell? ⟨b, j, none⟩ = w.cell? ⟨b, j, none⟩) (hcf : ∀ j, w'.frozen? ⟨b, j, none⟩ = false) (e : ∀ c, G.F c → c ≠ b → w'.heap[c]? = w.heap[c]?) :
    TR w' t { G with bl := upd G.bl 2 p (some m) } h i where
  root := by dsimp only; rw [upd_k _ _ _ _ (by decide)]; exact T.root
  non q hq := by
    try dsimp only at *
    rw [upd_k _ _ _ _ (by decide)] at hq
    have hqp : q ≠ p := fun e => by rw [e, hp] at hq; cases hq
    rw [upd_p _ _ _ _ hqp, upd_p _ _ _ _ hqp]
    exact T.non q hq
  k3 k q c hq := by
    try dsimp only at *
    unfold upd at hq
    split at hq
    · next hk => omega
    · exact T.k3 k q c hq
  uniq k q j r c hq hr := by
    try dsimp only at *
    unfold upd at hq hr
    split at hq <;> split at hr
    · next h1 h2 => exact ⟨h1.1.trans h2.1.symm, h1.2.trans h2.2.symm⟩
    · cases hq; exact absurd ⟨j, r, hr⟩ hm
    · cases hr; exact absurd ⟨k, q, hq⟩ hm
    · exact T.uniq k q j r c hq hr
  cell q c hq := by
    try dsimp only at *
    rw [upd_k _ _ _ _ (by decide)] at hq
    rw [upd_k _ _ _ _ (show (1 : Nat) ≠ 2 by decide)]
    obtain ⟨k1, k2, k3⟩ := T.cell q c hq
    by_cases hcb : c = b
    · subst hcb
      obtain ⟨_, rfl⟩ := T.uniq 0 q 0 p c hq hp
      exact ⟨(hci 0 (by decide)).trans k1, by rw [upd_same]; exact hc0, hcf⟩
    · have hqp : q ≠ p := fun e => hcb (by rw [e, hp] at hq; cases hq; rfl)
      have he := e c ⟨0, q, hq⟩ hcb
      rw [upd_p _ _ _ _ hqp]
      exact ⟨(World.cell?_of_block he).trans k1, (World.cell?_of_block he).trans k2, fun i => (World.frozen?_of_block he).trans (k3 i)⟩
  kids q := by
    try dsimp only at *
    rw [upd_k _ _ _ _ (by decide)]
    refine ((T.kids q).keep fun m1 hm1 => e m1 ⟨1, q, hm1⟩ (fun eb => ?_)).congr fun l => by rw [upd_k _ _ _ _ (by decide)]
    subst eb
    exact absurd (T.uniq 1 q 0 p m1 hm1 hp).1 (by decide)
  clis q := by
    try dsimp only at *
    by_cases hqp : q = p
    · subst hqp
      rw [upd_same]
      refine CM.congr hK fun l => ?_
      have := T.clis q
      rw [h1] at this
      exact ⟨False.elim, fun hl => this l hl⟩
    · rw [upd_p _ _ _ _ hqp]
      refine (T.clis q).keep fun m1 hm1 => e m1 ⟨2, q, hm1⟩ (fun eb => ?_)
      subst eb
      exact absurd (T.uniq 2 q 0 p m1 hm1 hp).1 (by decide)
  hc := by
    try dsimp only at *
    by_cases htb : t = b
    · subst htb; exact (hci 2 (by decide)).trans T.hc
    · exact (World.cell?_of_block (e t T.fr htb)).trans T.hc
  ic := by
    try dsimp only at *
    by_cases htb : t = b
    · subst htb; exact (hci 3 (by decide)).trans T.ic
    · exact (World.cell?_of_block (e t T.fr htb)).trans T.ic
/-- A new node under a level. -/
theorem TR.link (T : TR w t G h i) {p : Pth} {l : List UInt8} {m c : Nat} (h1 : G.bl 1 p = some m) (h0 : G.bl 0 (p ++ [l]) = none) (hc : ¬ G.F c) (k0 : w'.cell? ⟨c, 0, none⟩ = some (.map none)) (k1 : w'.cell? ⟨c, 1, none⟩ = some (.map none)) (kf : ∀ j, w'.frozen? ⟨c, j, none⟩ = false)
    (hK : KM w' m fun x => if x = l then some c else G.bl 0 (p ++ [x])) (e : ∀ b, G.F b → b ≠ m → w'.heap[b]? = w.heap[b]?) :
    TR w' t { G with bl := upd G.bl 0 (p ++ [l]) (some c) } h i where
  root := by dsimp only; rw [upd_p _ _ _ _ (by simp)]; exact T.root
  non q hq := by
    try dsimp only at *
    rw [upd_k _ _ _ _ (by decide), upd_k _ _ _ _ (by decide)]
    by_cases hqp : q = p ++ [l]
    · subst hqp; exact T.non _ h0
    · rw [upd_p _ _ _ _ hqp] at hq; exact T.non q hq
  k3 k q c hq := by
    try dsimp only at *
    unfold upd at hq
    split at hq
    · next hk => omega
    · exact T.k3 k q c hq
  uniq k q j r b hq hr := by
    try dsimp only at *
    unfold upd at hq hr
    split at hq <;> split at hr
    · next h1 h2 => exact ⟨h1.1.trans h2.1.symm, h1.2.trans h2.2.symm⟩
    · cases hq; exact absurd ⟨j, r, hr⟩ hc
    · cases hr; exact absurd ⟨k, q, hq⟩ hc
    · exact T.uniq k q j r b hq hr
  cell q b hq := by
    try dsimp only at *
    rw [upd_k _ _ _ _ (show (1 : Nat) ≠ 0 by decide), upd_k _ _ _ _ (show (2 : Nat) ≠ 0 by decide)]
    by_cases hqp : q = p ++ [l]
    · subst hqp
      rw [upd_same] at hq
      cases hq
      rw [(T.non _ h0).1, (T.non _ h0).2]
      exact ⟨k0, k1, kf⟩
    · rw [upd_p _ _ _ _ hqp] at hq
      obtain ⟨c1, c2, c3⟩ := T.cell q b hq
      have he := e b ⟨0, q, hq⟩ (fun eb => by subst eb; exact absurd (T.uniq 0 q 1 p b hq h1).1 (by decide))
      exact ⟨(World.cell?_of_block he).trans c1, (World.cell?_of_block he).trans c2, fun i => (World.frozen?_of_block he).trans (c3 i)⟩
  kids q := by
    try dsimp only at *
    rw [upd_k _ _ _ _ (by decide)]
    by_cases hqp : q = p
    · subst hqp
      rw [h1]
      refine KM.congr hK fun x => ?_
      by_cases hx : x = l
      · subst hx; rw [if_pos rfl, upd_same]
      · rw [if_neg hx, upd_p _ _ _ _ (fun e => hx (snoc_inj e).2)]
    · refine ((T.kids q).keep fun m1 hm1 => e m1 ⟨1, q, hm1⟩ (fun eb => ?_)).congr fun x => by rw [upd_p _ _ _ _ (fun e => hqp (snoc_inj e).1)]
      subst eb
      exact hqp (T.uniq 1 q 1 p m1 hm1 h1).2
  clis q := by
    try dsimp only at *
    rw [upd_k _ _ _ _ (by decide)]
    refine (T.clis q).keep fun m1 hm1 => e m1 ⟨2, q, hm1⟩ (fun eb => ?_)
    subst eb
    exact absurd (T.uniq 2 q 1 p m1 hm1 h1).1 (by decide)
  hc := (World.cell?_of_block (e t T.fr (fun eb => by subst eb; exact absurd (T.uniq 0 [] 1 p t T.root h1).1 (by decide)))).trans T.hc
  ic := (World.cell?_of_block (e t T.fr (fun eb => by subst eb; exact absurd (T.uniq 0 [] 1 p t T.root h1).1 (by decide)))).trans T.ic
/-- Another set of clients at a node. -/
theorem TR.cset (T : TR w t G h i) {p : Pth} {m : Nat} {s : List UInt8 → Prop} (h2 : G.bl 2 p = some m) (hC : CM w' m s) (e : ∀ b, G.F b → b ≠ m → w'.heap[b]? = w.heap[b]?) :
    TR w' t { G with cl := fun q c => if q = p then s c else G.cl q c } h i where
  root := T.root
  non := T.non
  k3 := T.k3
  uniq := T.uniq
  cell q b hq := by
    try dsimp only at *
    obtain ⟨c1, c2, c3⟩ := T.cell q b hq
    have he := e b ⟨0, q, hq⟩ (fun eb => by subst eb; exact absurd (T.uniq 0 q 2 p b hq h2).1 (by decide))
    exact ⟨(World.cell?_of_block he).trans c1, (World.cell?_of_block he).trans c2, fun i => (World.frozen?_of_block he).trans (c3 i)⟩
  kids q := (T.kids q).keep fun m1 hm1 => e m1 ⟨1, q, hm1⟩ (fun eb => by subst eb; exact absurd (T.uniq 1 q 2 p m1 hm1 h2).1 (by decide))
  clis q := by
    try dsimp only at *
    by_cases hqp : q = p
    · subst hqp
      show MCo w' (G.bl 2 q) _
      rw [h2]
      exact CM.congr hC fun l => by simp
    · refine ((T.clis q).keep fun m1 hm1 => e m1 ⟨2, q, hm1⟩ (fun eb => ?_)).congr fun l => by simp [hqp]
      subst eb
      exact hqp (T.uniq 2 q 2 p m1 hm1 h2).2
  hc := (World.cell?_of_block (e t T.fr (fun eb => by subst eb; exact absurd (T.uniq 0 [] 2 p t T.root h2).1 (by decide)))).trans T.hc
  ic := (World.cell?_of_block (e t T.fr (fun eb => by subst eb; exact absurd (T.uniq 0 [] 2 p t T.root h2).1 (by decide)))).trans T.ic
/-- A bare node goes. -/
theorem TR.cut (T : TR w t G h i) {p : Pth} {l : List UInt8} {m : Nat} (h1 : G.bl 1 p = some m) (hk : ∀ x, G.bl 0 (p ++ [l] ++ [x]) = none) (hn : ∀ c, ¬ G.cl (p ++ [l]) c)
    (hK : KM w' m fun x => if x = l then none else G.bl 0 (p ++ [x])) (e : ∀ b, G.F b → b ≠ m → w'.heap[b]? = w.heap[b]?) :
    TR w' t { G with bl := fun k q => if q = p ++ [l] then none else G.bl k q } h i where
  root := by dsimp only; simp; exact T.root
  non q hq := by
    try dsimp only at *
    by_cases hqp : q = p ++ [l]
    · simp [hqp]
    · simp only [if_neg hqp] at hq ⊢; exact T.non q hq
  k3 k q c hq := by
    try dsimp only at *
    by_cases hqp : q = p ++ [l]
    · simp [hqp] at hq
    · simp only [if_neg hqp] at hq; exact T.k3 k q c hq
  uniq k q j r b hq hr := by
    try dsimp only at *
    by_cases hqp : q = p ++ [l]
    · simp [hqp] at hq
    · by_cases hrp : r = p ++ [l]
      · simp [hrp] at hr
      · simp only [if_neg hqp] at hq; simp only [if_neg hrp] at hr; exact T.uniq k q j r b hq hr
  cell q b hq := by
    try dsimp only at *
    by_cases hqp : q = p ++ [l]
    · simp [hqp] at hq
    · simp only [if_neg hqp] at hq ⊢
      obtain ⟨c1, c2, c3⟩ := T.cell q b hq
      have he := e b ⟨0, q, hq⟩ (fun eb => by subst eb; exact absurd (T.uniq 0 q 1 p b hq h1).1 (by decide))
      exact ⟨(World.cell?_of_block he).trans c1, (World.cell?_of_block he).trans c2, fun i => (World.frozen?_of_block he).trans (c3 i)⟩
  kids q := by
    try dsimp only at *
    by_cases hqp : q = p ++ [l]
    · subst hqp
      simp only [if_pos rfl]
      intro x
      show (if _ then _ else _) = _
      rw [if_neg (snoc_ne _ _)]
      exact hk x
    · simp only [if_neg hqp]
      by_cases hq : q = p
      · subst hq
        rw [h1]
        refine KM.congr hK fun x => ?_
        by_cases hx : x = l
        · subst hx; simp
        · rw [if_neg hx, if_neg (fun e => hx (snoc_inj e).2)]
      · refine ((T.kids q).keep fun m1 hm1 => e m1 ⟨1, q, hm1⟩ (fun eb => ?_)).congr fun x => by rw [if_neg (fun e => hq (snoc_inj e).1)]
        subst eb
        exact hq (T.uniq 1 q 1 p m1 hm1 h1).2
  clis q := by
    try dsimp only at *
    by_cases hqp : q = p ++ [l]
    · subst hqp
      simp only [if_pos rfl]
      exact hn
    · simp only [if_neg hqp]
      refine (T.clis q).keep fun m1 hm1 => e m1 ⟨2, q, hm1⟩ (fun eb => ?_)
      subst eb
      exact absurd (T.uniq 2 q 1 p m1 hm1 h1).1 (by decide)
  hc := (World.cell?_of_block (e t T.fr (fun eb => by subst eb; exact absurd (T.uniq 0 [] 1 p t T.root h1).1 (by decide)))).trans T.hc
  ic := (World.cell?_of_block (e t T.fr (fun eb => by subst eb; exact absurd (T.uniq 0 [] 1 p t T.root h1).1 (by decide)))).trans T.ic
/-- Other numbers in the trie's own cells. -/
theorem TR.num (T : TR w t G h i) {h' i' : Int} (hc2 : w'.cell? ⟨t, 2, none⟩ = some (.int .i64 h')) (hc3 : w'.cell? ⟨t, 3, none⟩ = some (.int .i64 i')) (hc0 : w'.cell? ⟨t, 0, none⟩ = w.cell? ⟨t, 0, none⟩) (hc1 : w'.cell? ⟨t, 1, none⟩ = w.cell? ⟨t, 1, none⟩) (hcf : ∀ j, w'.frozen? ⟨t, j, none⟩ = false)
    (e : ∀ b, G.F b → b ≠ t → w'.heap[b]? = w.heap[b]?) : TR w' t G h' i' where
  root := T.root
  non := T.non
  k3 := T.k3
  uniq := T.uniq
  cell p b hb := by
    obtain ⟨h1, h2, h3⟩ := T.cell p b hb
    by_cases hbt : b = t
    · subst hbt; exact ⟨hc0.trans h1, hc1.trans h2, hcf⟩
    · have he := e b ⟨0, p, hb⟩ hbt
      exact ⟨(World.cell?_of_block he).trans h1, (World.cell?_of_block he).trans h2, fun i => (World.frozen?_of_block he).trans (h3 i)⟩
  kids p := (T.kids p).keep fun m hm => e m ⟨1, p, hm⟩ (fun eb => by subst eb; exact absurd (T.uniq 1 p 0 [] m hm T.root).1 (by decide))
  clis p := (T.clis p).keep fun m hm => e m ⟨2, p, hm⟩ (fun eb => by subst eb; exact absurd (T.uniq 2 p 0 [] m hm T.root).1 (by decide))
  hc := hc2
  ic := hc3
end
/-- The nodes beside the root, each once. -/
def PsOk (G : TG) (ps : List Pth) : Prop := ps.Nodup ∧ ∀ p, p ∈ ps ↔ p ≠ [] ∧ G.bl 0 p ≠ none
end Go.Proofs.YtipdmfnkkkdlbaaGreatDoor
namespace Go.Proofs.YtipdmfnkkkdlbaaGreatDoor
open Go.RowKit Go.Maps

@[go_sem] theorem kmn (r : Option Nat) (W : World) : (binOp .eql 49 (.map r) (.map none)).run Tryz.prog W = .ok (.bool r.isNone) W := run_eql_map_nil W _ _ _ r Tryz.underlying49
@[go_sem] theorem cmn (r : Option Nat) (W : World) : (binOp .eql 51 (.map r) (.map none)).run Tryz.prog W = .ok (.bool r.isNone) W := run_eql_map_nil W _ _ _ r Tryz.underlying51
section
variable {w : World} {t : Nat} {G : TG} {h i : Int}
theorem nHas_eq (T : TR w t G h i) {p : Pth} {b : Nat} (hp : G.bl 0 p = some b) (c : List UInt8) (r : Bool) (hl : c.length ≤ maxLen) (hr : r = true ↔ G.cl p c) :
    Calls Tryz.prog 38 #[.pointer (some ⟨b, 0, none⟩), .string ⟨c.toArray⟩] w fun e w' => e = .returned (.bool r) ∧ Below w.heap.size w w' := by
  obtain ⟨k0, k1, kf⟩ := T.cell p b hp
  have hlk := (T.clis p).look hl hr
  have hb := below_alloc (Below.refl w.heap.size w) (.cells #[] 65)
  clear T hr
  go_enter Tryz.func38, Tryz.ntmps38
  go_wp2_with fail
  go_ret
  exact ⟨rfl, hb⟩
theorem nBare_eq (T : TR w t G h i) {p : Pth} {b : Nat} (hp : G.bl 0 p = some b) (r : Bool) (hr : r = true ↔ (∀ c, ¬ G.cl p c) ∧ ∀ l, G.bl 0 (p ++ [l]) = none) :
    Calls Tryz.prog 73 #[.pointer (some ⟨b, 0, none⟩)] w fun e w' => e = .returned (.bool r) ∧ w' = w := by
  obtain ⟨k0, k1, kf⟩ := T.cell p b hp
  obtain ⟨n1, e1, z1⟩ := (T.clis p).len
  obtain ⟨n2, e2, z2⟩ := (T.kids p).len
  rw [← z1, ← z2] at hr
  clear T z1 z2
  by_cases h1 : n1 = 0
  · have hd1 : ((n1 : Int) == 0) = true := by simp [h1]
    by_cases h2 : n2 = 0
    · have hd2 : ((n2 : Int) == 0) = true := by simp [h2]
      obtain rfl : r = true := hr.2 ⟨h1, h2⟩
      clear hr h1 h2
      go_enter Tryz.func73, Tryz.ntmps73
      go_wp2_with fail
      go_ret
      exact ⟨rfl, rfl⟩
    · have hd2 : ((n2 : Int) == 0) = false := by simp [h2]
      obtain rfl : r = false := by
        cases r with
        | false => rfl
        | true => exact absurd (hr.1 rfl).2 h2
      clear hr h1 h2
      go_enter Tryz.func73, Tryz.ntmps73
      go_wp2_with fail
      go_ret
      exact ⟨rfl, rfl⟩
  · have hd1 : ((n1 : Int) == 0) = false := by simp [h1]
    obtain rfl : r = false := by
      cases r with
      | false => rfl
      | true => exact absurd (hr.1 rfl).1 h1
    clear hr h1
    go_enter Tryz.func73, Tryz.ntmps73
    go_wp2_with fail
    go_ret
    exact ⟨rfl, rfl⟩
theorem gLen_eq (T : TR w t G h i) :
    Calls Tryz.prog 23 #[.pointer (some ⟨t, 0, none⟩)] w fun e w' => e = .returned (.int .i64 h) ∧ w' = w := by
  have k := T.hc
  clear T
  go_enter Tryz.func23, Tryz.ntmps23
  go_wp2_with fail
  go_ret
  exact ⟨rfl, rfl⟩
theorem gNodes_eq (T : TR w t G h i) (h0 : 0 ≤ i) (h1 : i ≤ 1000000000) :
    Calls Tryz.prog 22 #[.pointer (some ⟨t, 0, none⟩)] w fun e w' => e = .returned (.int .i64 (1 + i)) ∧ w' = w := by
  have k := T.ic
  have hw : IntKind.i64.wrap (1 + i) = 1 + i := IntWalk.i64_in _ (by omega)
  clear T
  go_enter Tryz.func22, Tryz.ntmps22
  go_wp2_with fail
  go_ret
  exact ⟨rfl, rfl⟩
theorem lenN_eq (w : World) : Calls Tryz.prog 23 #[.pointer none] w fun e w' => e = .returned (.int .i64 0) ∧ w' = w := by
  go_enter Tryz.func23, Tryz.ntmps23
  go_wp2_with fail
  go_ret
  exact ⟨rfl, rfl⟩
theorem nodesN_eq (w : World) : Calls Tryz.prog 22 #[.pointer none] w fun e w' => e = .returned (.int .i64 0) ∧ w' = w := by
  go_enter Tryz.func22, Tryz.ntmps22
  go_wp2_with fail
  go_ret
  exact ⟨rfl, rfl⟩
theorem addN_eq (w : World) (f c : List UInt8) : Calls Tryz.prog 20 #[.pointer none, .string ⟨f.toArray⟩, .string ⟨c.toArray⟩] w fun e w' => e = .returned (.bool false) ∧ w' = w := by
  go_enter Tryz.func20, Tryz.ntmps20
  go_wp2_with fail
  go_ret
  exact ⟨rfl, rfl⟩
theorem remN_eq (w : World) (f c : List UInt8) : Calls Tryz.prog 21 #[.pointer none, .string ⟨f.toArray⟩, .string ⟨c.toArray⟩] w fun e w' => e = .returned (.bool false) ∧ w' = w := by
  go_enter Tryz.func21, Tryz.ntmps21
  go_wp2_with fail
  go_ret
  exact ⟨rfl, rfl⟩
theorem matN_eq (w : World) (f : List UInt8) : Calls Tryz.prog 19 #[.pointer none, .string ⟨f.toArray⟩] w fun e w' => e = .returned (.slice none 0 0) ∧ w' = w := by
  go_enter Tryz.func19, Tryz.ntmps19
  go_wp2_with fail
  go_ret
  exact ⟨rfl, rfl⟩
end
/-- A trie that has just been made. -/
def newG (t : Nat) : TG := ⟨fun k p => if k = 0 ∧ p = [] then some t else none, fun _ _ => False⟩
theorem new_tr (w : World) : TR (w.alloc (.cells #[.map none, .map none, .int .i64 0, .int .i64 0] 55)) w.heap.size (newG w.heap.size) 0 0 where
  root := by simp [newG]
  non p hp := by simp [newG]
  k3 k p b hb := by
    simp [newG] at hb
    omega
  uniq k p j q b h1 h2 := by
    simp [newG] at h1 h2
    exact ⟨h1.1.1.trans h2.1.1.symm, h1.1.2.trans h2.1.2.symm⟩
  cell p b hb := by
    simp [newG] at hb
    obtain ⟨_, rfl⟩ := hb
    exact ⟨by rw [World.cell?_alloc_new]; simp [newG], by rw [World.cell?_alloc_new]; simp [newG], fun i => by
      have e := (MapKept.heap_alloc w (.cells #[.map none, .map none, .int .i64 0, .int .i64 0] 55)).1
      simp only [World.frozen?, e]
      simp⟩
  kids p := by
    simp [newG, MKo]
  clis p := by
    simp [newG, MCo]
  hc := by rw [World.cell?_alloc_new]; rfl
  ic := by rw [World.cell?_alloc_new]; rfl
theorem tNew_eq (w : World) : Calls Tryz.prog 11 #[] w fun e w' => e = .returned (.pointer (some ⟨w.heap.size, 0, none⟩)) ∧ w' = w.alloc (.cells #[.map none, .map none, .int .i64 0, .int .i64 0] 55) := by
  go_enter Tryz.func11, Tryz.ntmps11
  go_wp2_with fail
  go_ret
  exact ⟨rfl, rfl⟩
end Go.Proofs.YtipdmfnkkkdlbaaGreatDoor
