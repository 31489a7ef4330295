/-
  ids: the document's pool: a row of ids, rising.
-/
import Derived.Test.YtckgglgecpmikaaDoorIdHelp
set_option linter.unusedSimpArgs false
set_option linter.unusedVariables false
namespace Go.Proofs.YtckgglgecpmikaaDoor
open Go.RowKit

/-! Rows: where the least free id goes, where an id stands. -/
theorem tw_mem (L : List Nat) (hs : Srt ltN L) (id x : Nat) : x ∈ L.takeWhile (ltN · id) ↔ x ∈ L ∧ x < id := by
  induction L with
  | nil => simp
  | cons a r ih =>
    obtain ⟨h1, h2⟩ := (srt_cons a r).1 hs
    rw [List.takeWhile_cons]
    cases ha : ltN a id with
    | true =>
      have hal : a < id := by simpa [ltN] using ha
      rw [if_pos rfl, List.mem_cons, ih h2, List.mem_cons]
      constructor
      · rintro (rfl | ⟨h3, h4⟩)
        · exact ⟨Or.inl rfl, hal⟩
        · exact ⟨Or.inr h3, h4⟩
      · rintro ⟨rfl | h3, h4⟩
        · exact Or.inl rfl
        · exact Or.inr ⟨h3, h4⟩
    | false =>
      have hal : ¬ a < id := by simpa [ltN] using ha
      rw [if_neg (by decide)]
      constructor
      · intro h; cases h
      · rintro ⟨h3, h4⟩
        rcases List.mem_cons.1 h3 with rfl | h3
        · exact absurd h4 hal
        · have := h1 x h3
          simp [ltN] at this
          omega
theorem tw_srt (L : List Nat) (hs : Srt ltN L) (p : Nat → Bool) : Srt ltN (L.takeWhile p) := List.Pairwise.sublist (List.takeWhile_sublist p) hs
/-- Ahead of the least free id stand all lesser ones. -/
theorem lst_pre {L : List Nat} {k : Nat} (hs : Srt ltN L) (hp : ∀ i ∈ L, 1 ≤ i) (hid : Lst L (k + 1)) : L.takeWhile (ltN · (k + 1)) = fullL k ∧ L.take k = fullL k ∧ L.dropWhile (ltN · (k + 1)) = L.drop k := by
  have h1 : L.takeWhile (ltN · (k + 1)) = fullL k := srt_ext ltN_ord _ _ (tw_srt L hs _) (full_srt k) fun x => by
    rw [tw_mem L hs, full_mem]
    constructor
    · rintro ⟨h2, h3⟩; exact ⟨hp x h2, by omega⟩
    · rintro ⟨h2, h3⟩; exact ⟨hid.low x h2 (by omega), by omega⟩
  have h2 : L = fullL k ++ L.dropWhile (ltN · (k + 1)) := by rw [← h1, List.takeWhile_append_dropWhile]
  refine ⟨h1, ?_, ?_⟩
  · have h3 : L.take k = (fullL k ++ L.dropWhile (ltN · (k + 1))).take k := by rw [← h2]
    rw [h3, List.take_left' (full_len k)]
  · have h3 : L.drop k = (fullL k ++ L.dropWhile (ltN · (k + 1))).drop k := by rw [← h2]
    rw [h3, List.drop_left' (full_len k)]
theorem full_at (k j : Nat) (hj : j < k) : (fullL k)[j]? = some (j + 1) := by
  unfold fullL
  rw [List.getElem?_range' hj]
  congr 1
  omega
theorem lst_at {L : List Nat} {k j : Nat} (hs : Srt ltN L) (hp : ∀ i ∈ L, 1 ≤ i) (hid : Lst L (k + 1)) (hj : j < k) : L[j]? = some (j + 1) := by
  obtain ⟨_, h2, _⟩ := lst_pre hs hp hid
  have h3 := full_at k j hj
  rw [← h2, List.getElem?_take] at h3
  rw [if_pos hj] at h3
  exact h3
theorem lst_len {L : List Nat} {k : Nat} (hs : Srt ltN L) (hp : ∀ i ∈ L, 1 ≤ i) (hid : Lst L (k + 1)) : k ≤ L.length := by
  obtain ⟨_, h2, _⟩ := lst_pre hs hp hid
  have := congrArg List.length h2
  rw [List.length_take, full_len] at this
  omega
theorem lst_put {L : List Nat} {k : Nat} (hs : Srt ltN L) (hp : ∀ i ∈ L, 1 ≤ i) (hid : Lst L (k + 1)) : insO ltN (k + 1) L = L.take k ++ (k + 1) :: L.drop k := by
  obtain ⟨h1, h2, h3⟩ := lst_pre hs hp hid
  unfold insO
  rw [h1, h3, h2]
/-- Where an id stands: it is cut out there. -/
theorem del_at {L : List Nat} {k id : Nat} (hs : Srt ltN L) (hk : L[k]? = some id) : delN id L = L.take k ++ L.drop (k + 1) := by
  obtain ⟨h1, h2⟩ := List.getElem?_eq_some_iff.1 hk
  have h3 : L = L.take k ++ id :: L.drop (k + 1) := by
    have h4 := List.drop_eq_getElem_cons h1
    rw [h2] at h4
    rw [← h4, List.take_append_drop]
  have h5 := hs
  rw [h3] at h5
  unfold Srt at h5
  rw [List.pairwise_append] at h5
  obtain ⟨_, h6, h7⟩ := h5
  rw [List.pairwise_cons] at h6
  unfold delN
  conv => lhs; rw [h3]
  rw [List.filter_append, List.filter_cons_of_neg (by simp), List.filter_eq_self.2, List.filter_eq_self.2]
  · intro a ha
    have := h6.1 a ha
    simp [ltN] at this ⊢; omega
  · intro a ha
    have := h7 a ha id (by simp)
    simp [ltN] at this ⊢; omega
theorem tw_at {L : List Nat} (hs : Srt ltN L) {k : Nat} (id : Nat) (hk : (L.takeWhile (ltN · id)).length = k) : (L[k]? = some id) ↔ id ∈ L := by
  constructor
  · exact fun h => List.mem_of_getElem? h
  · intro hm
    have h1 : id ∈ L.dropWhile (ltN · id) := by
      have h2 : id ∈ L.takeWhile (ltN · id) ++ L.dropWhile (ltN · id) := by rw [List.takeWhile_append_dropWhile]; exact hm
      rcases List.mem_append.1 h2 with h3 | h3
      · have := ((tw_mem L hs id id).1 h3).2; omega
      · exact h3
    have h2 : L = L.takeWhile (ltN · id) ++ L.dropWhile (ltN · id) := List.takeWhile_append_dropWhile.symm
    have hd : Srt ltN (L.dropWhile (ltN · id)) := List.Pairwise.sublist (List.dropWhile_sublist _) hs
    cases hdd : L.dropWhile (ltN · id) with
    | nil => rw [hdd] at h1; cases h1
    | cons a r =>
      have h4 : ltN a id = false := by
        have := List.head?_dropWhile_not (ltN · id) L
        rw [hdd] at this
        simpa using this
      rw [hdd] at h1 hd
      have h5 : a = id := by
        rcases List.mem_cons.1 h1 with h6 | h6
        · exact h6.symm
        · have h7 := ((srt_cons a r).1 hd).1 id h6
          simp [ltN] at h4 h7; omega
      rw [hdd, h5] at h2
      rw [h2, List.getElem?_append_right (by omega), hk, Nat.sub_self]; rfl
/-- The document's pool at g, in the blocks R: the ids L. -/
def RI (w : World) (g : Nat) (R : Nat → Prop) (L : List Nat) : Prop :=
  ∃ v, w.heap[g]? = some (.cells #[v] 42 (0, 0)) ∧ w.ownsRow 0 25 1 v L.length (L.map u16V) ∧ v.ownBlock ≠ some g ∧ ∀ x, R x ↔ x = g ∨ v.ownBlock = some x
section
variable {w w' : World} {g : Nat} {R : Nat → Prop} {L : List Nat}
theorem RI.root (h : RI w g R L) : R g := by obtain ⟨v, _, _, _, hF⟩ := h; exact (hF g).2 (Or.inl rfl)
theorem RI.lt (h : RI w g R L) (b : Nat) (hb : R b) : b < w.heap.size := by
  obtain ⟨v, h1, h2, _, hF⟩ := h
  rcases (hF b).1 hb with rfl | hb
  · exact (Array.getElem?_eq_some_iff.1 h1).1
  · exact (h2.lt b hb).2
theorem RI.keep (h : RI w g R L) (hk : ∀ b, R b → w'.heap[b]? = w.heap[b]?) : RI w' g R L := by
  obtain ⟨v, h1, h2, h3, hF⟩ := h
  exact ⟨v, (hk g ((hF g).2 (Or.inl rfl))).trans h1, vrow_keep h2 (fun b hb => hk b ((hF b).2 (Or.inr hb))), h3, hF⟩
theorem RI.below (h : RI w g R L) (hb : Below w.heap.size w w') : RI w' g R L := h.keep fun b hF => hb.block b (h.lt b hF)
theorem RI.outs {G : Nat → Prop} (h : RI w g R L) (hU : Outs w w' G) (hG : ∀ b, R b → ¬ G b) : RI w' g R L := h.keep fun b hF => hU.block b (h.lt b hF) (hG b hF)
theorem u16_one (L : List Nat) : ∀ u ∈ L.map u16V, u.oneCell' = true := by
  intro u hu
  rw [List.mem_map] at hu
  obtain ⟨x, _, rfl⟩ := hu
  rfl
theorem rNew (w : World) : Calls Tryd.prog 16 #[] w fun e w' => ∃ g R, e = .returned (.pointer (some ⟨g, 0, none⟩)) ∧ RI w' g R [] ∧ Below w.heap.size w w' ∧ ∀ b, R b → w.heap.size ≤ b := by
  go_enter Tryd.func16, Tryd.ntmps16
  go_wp2_with fail
  go_ret
  exact ⟨w.heap.size, fun x => x = w.heap.size, rfl, ⟨.slice none 0 0, heap_alloc_new w _, World.ownsRow_nil _ _ _ _, by simp [Value.ownBlock], fun x => by simp [Value.ownBlock]⟩, below_alloc (Below.refl _ _) _, fun b e => by omega⟩
set_option maxHeartbeats 1000000 in
theorem rPlace (h : RI w g R L) (id k : Nat) (hl : L.length ≤ 65535) (hk : (L.takeWhile (ltN · id)).length = k) :
    Calls Tryd.prog 25 #[.pointer (some ⟨g, 0, none⟩), .int .u16 (id : Nat)] w fun e w' => e = .returned (.int .i64 (k : Nat)) ∧ w = w' := by
  obtain ⟨v, h1, h2, _, _⟩ := h
  obtain ⟨A, c, rfl, hc, hV, _, _⟩ := vrow_form h2
  have c0 := cell_of_row w g 0 _ _ _ h1
  have hkl : k ≤ L.length := by rw [← hk]; exact List.Sublist.length_le (List.takeWhile_sublist _)
  have HV := Lib.hid hV
  have HK := Lib.hid hk
  clear hV hk h1 h2
  go_enter Tryd.func25, Tryd.ntmps25
  go_wp2_with fail
  go_loopw [5] (fun i wr => ∃ j : Nat, i = .int .i64 j ∧ j ≤ k ∧ w = wr) (fun i _ => k - (intOf i).toNat)
  case atStart => exact ⟨0, rfl, by omega, rfl⟩
  case round =>
    obtain ⟨j, rfl, hj, rfl⟩ := hrel
    by_cases hn : j < L.length
    · obtain ⟨b, o, x, rfl, hx, hcx⟩ := HV.out.at_ hn
      rw [List.getElem?_map, Option.map_eq_some_iff] at hx
      obtain ⟨z, hz, rfl⟩ := hx
      unfold u16V at hcx
      have hjn : (j : Int) < (L.length : Int) := by omega
      have hj0 : (0 : Int) ≤ (j : Int) := by omega
      by_cases hlt : z < id
      · have hzI : (z : Int) < (id : Int) := by omega
        have hj1 : j + 1 ≤ k := by
          have := tw_step (ltN · id) L j z hz (by rw [HK.out]; exact hj) (by simpa [ltN] using hlt)
          rwa [HK.out] at this
        clear hz
        go_wp2_with fail
        go_roundw
        case rel => exact ⟨j + 1, by go_num, by omega, trivial⟩
        case measure => simp [intOf]; omega
      · have hzI : ¬ (z : Int) < (id : Int) := by omega
        have hjk : j = k := by
          have h5 := (tw_stop (ltN · id) L j (by rw [HK.out]; exact hj) (fun x hx => by rw [hz] at hx; cases hx; simpa [ltN] using hlt)).1
          have h6 := HK.out
          rw [h5, List.length_take] at h6
          omega
        subst hjk
        clear hz
        go_wp2_with fail
        go_ret
        exact ⟨rfl, rfl⟩
    · have hjn : ¬ (j : Int) < (L.length : Int) := by omega
      obtain rfl : j = k := by omega
      go_wp2_with fail
      go_ret
      exact ⟨rfl, rfl⟩
set_option maxHeartbeats 1000000 in
theorem rHas (h : RI w g R L) (hs : Srt ltN L) (id : Nat) (r : Bool) (hl : L.length ≤ 65535) (hr : decide (id ∈ L) = r) :
    Calls Tryd.prog 18 #[.pointer (some ⟨g, 0, none⟩), .int .u16 (id : Nat)] w fun e w' => e = .returned (.bool r) ∧ w = w' := by
  obtain ⟨k, hk⟩ : ∃ k, (L.takeWhile (ltN · id)).length = k := ⟨_, rfl⟩
  have hat := tw_at hs id hk
  have HR := Lib.hid h
  have HK := Lib.hid hk
  obtain ⟨v, h1, h2, _, _⟩ := h
  obtain ⟨A, c, rfl, hc, hV, _, _⟩ := vrow_form h2
  have c0 := cell_of_row w g 0 _ _ _ h1
  have HV := Lib.hid hV
  clear hV h1 h2 hk
  by_cases hn : k < L.length
  · obtain ⟨b, o, x, rfl, hx, hcx⟩ := HV.out.at_ hn
    rw [List.getElem?_map, Option.map_eq_some_iff] at hx
    obtain ⟨z, hz, rfl⟩ := hx
    unfold u16V at hcx
    have hjn : (k : Int) < (L.length : Int) := by omega
    have hj0 : (0 : Int) ≤ (k : Int) := by omega
    have heq : ((z : Int) == (id : Int)) = r := by
      rw [← hr]
      by_cases e : z = id
      · rw [decide_eq_true (hat.1 (by rw [hz, e]))]; simp [e]
      · rw [decide_eq_false (fun hm => e (by have := hat.2 hm; rw [hz] at this; cases this; rfl))]; simp; omega
    clear hz hat hr
    go_enter Tryd.func18, Tryd.ntmps18
    go_wp2_with fail
    refine (rPlace HR.out id k hl HK.out).mono ?_
    rintro e w1 ⟨rfl, rfl⟩
    go_wp2_with fail
    go_ret
    exact ⟨rfl, rfl⟩
  · have hjn : ¬ (k : Int) < (L.length : Int) := by omega
    have hrf : r = false := by
      rw [← hr]; apply decide_eq_false
      intro hm
      have := (List.getElem?_eq_some_iff.1 (hat.2 hm)).1
      omega
    subst hrf
    clear hat hr
    go_enter Tryd.func18, Tryd.ntmps18
    go_wp2_with fail
    refine (rPlace HR.out id k hl HK.out).mono ?_
    rintro e w1 ⟨rfl, rfl⟩
    go_wp2_with fail
    go_ret
    exact ⟨rfl, rfl⟩
/-- What the document's calls leave. -/
def RkP (w : World) (g : Nat) (R : Nat → Prop) (M : List Nat) (v : Value) (e : Ending) (w' : World) : Prop :=
  ∃ R', e = .returned v ∧ RI w' g R' M ∧ Outs w w' R ∧ ∀ x, R' x → R x ∨ w.heap.size ≤ x
theorem vrow_cases {w : World} {B : Nat} {E : TypeId} {N : Nat} {v : Value} {xs : List Value} (h : w.ownsRow B E 1 v N xs) : (v = .slice none 0 0 ∧ N = 0) ∨ ∃ g c, v = .slice (some ⟨g, 0, none⟩) N c ∧ B ≤ g ∧ N ≤ c ∧ Vals w (some ⟨g, 0, none⟩) N xs := by
  obtain ⟨A, c, rfl, hc, hV, _, _⟩ := vrow_form h
  rcases h.2 with ⟨h1, h2⟩ | ⟨g, cap, cur, h1, h2, _⟩
  · exact Or.inl ⟨h1, h2⟩
  · injection h1 with h3 h4 h5
    subst h3
    exact Or.inr ⟨g, c, rfl, h2, hc, hV⟩
/-- Behind the store of a new row. -/
theorem RI.stored {w3 : World} {M : List Nat} {v3 : Value} {r : Value} (h : RI w g R L) (hb : Below w.heap.size w w3) (hrow : w3.ownsRow w.heap.size 25 1 v3 M.length (M.map u16V)) :
    RkP w g R M r (.returned r) (w3.setCell ⟨g, 0, none⟩ v3) := by
  have hR := h.root
  have hgl := h.lt g hR
  obtain ⟨v, h1, h2, h3, hF⟩ := h
  have h4 := (hb.block g hgl).trans h1
  have hne : ∀ b, v3.ownBlock = some b → b ≠ g := fun b e => by have := (hrow.lt b e).1; omega
  refine ⟨fun x => x = g ∨ v3.ownBlock = some x, rfl, ⟨v3, heap_setCell_same w3 g 0 _ _ _ h4, vrow_keep (w := w3) ?_ (fun b e => heap_setCell_other w3 ⟨g, 0, none⟩ b _ (hne b e)), fun e => hne g e rfl, fun _ => Iff.rfl⟩, (Outs.of_below hb).setCell g 0 hR _, fun x hx => ?_⟩
  · refine ⟨hrow.1, ?_⟩
    rcases hrow.2 with h5 | ⟨b, cap, cur, e, _, r⟩
    · exact Or.inl h5
    · exact Or.inr ⟨b, cap, cur, e, Nat.zero_le _, r⟩
  · rcases hx with rfl | hx
    · exact Or.inl hR
    · exact Or.inr (hrow.lt x hx).1
/-- An append to a row of the call's own, and what was there. -/
theorem app_below {w wi wj : World} {v : Value} {N : Nat} {xs : List Value} (hb : Below w.heap.size w wi) (hrow : wi.ownsRow w.heap.size 25 1 v N xs) (hg : wi.grownBy wj v.ownBlock) : Below w.heap.size w wj :=
  hb.grown hg hb.size (fun k hk => (hrow.lt k hk).1)
theorem rFree_no (h : RI w g R L) (hs : Srt ltN L) (id : Nat) (hl : L.length ≤ 65535) (hr : id ∉ L) :
    Calls Tryd.prog 19 #[.pointer (some ⟨g, 0, none⟩), .int .u16 (id : Nat)] w fun e w' => RkP w g R L (.bool false) e w' := by
  have HR := Lib.hid h
  have HS := Lib.hid hs
  have HD := Lib.hid (decide_eq_false hr)
  clear h hs hr
  go_enter Tryd.func19, Tryd.ntmps19
  go_wp2_with fail
  refine (rHas HR.out HS.out id false hl HD.out).mono ?_
  rintro e w1 ⟨rfl, rfl⟩
  go_wp2_with fail
  go_ret
  exact ⟨R, rfl, HR.out, Outs.refl _ _, fun x hx => Or.inl hx⟩
set_option maxRecDepth 100000 in
set_option maxHeartbeats 2000000 in
theorem rFree_yes (h : RI w g R L) (hs : Srt ltN L) (id : Nat) (hl : L.length ≤ 65535) (hr : id ∈ L) :
    Calls Tryd.prog 19 #[.pointer (some ⟨g, 0, none⟩), .int .u16 (id : Nat)] w fun e w' => RkP w g R (delN id L) (.bool true) e w' := by
  obtain ⟨k, hk⟩ : ∃ k, (L.takeWhile (ltN · id)).length = k := ⟨_, rfl⟩
  have hat := (tw_at hs id hk).2 hr
  have hkl := (List.getElem?_eq_some_iff.1 hat).1
  have HDel := Lib.hid (del_at hs hat)
  have HR := Lib.hid h
  have HS := Lib.hid hs
  have HK := Lib.hid hk
  have HD := Lib.hid (decide_eq_true hr)
  obtain ⟨v, h1, h2, _, _⟩ := h
  rcases vrow_cases h2 with ⟨_, h0⟩ | ⟨b, c, rfl, _, hc, hV⟩
  · omega
  have c0 : w.cell? ⟨g, 0, none⟩ = some (.slice (some ⟨b, 0, none⟩) L.length c) := cell_of_row w g 0 _ _ _ h1
  have hfz : w.frozen? ⟨g, 0, none⟩ = false := by unfold World.frozen?; rw [h1]; simp
  have hgl := (Array.getElem?_eq_some_iff.1 h1).1
  have e0 : w.ownsRow w.heap.size 25 1 (.slice none 0 0) 0 [] := World.ownsRow_nil _ _ _ _
  obtain ⟨A1, c1, w1, hrun1, hown1, hgr1, _⟩ := v_append (P := Tryd.prog) (T := 30) (ty := 30) e0 (Nat.le_refl _) Tryd.underlying30 info16 rfl (by decide) (some ⟨b, 0, none⟩) k c ((L.map u16V).take k) (hV.take k (by omega)) (by rw [← List.map_take]; exact u16_one _) (fun e => by cases e) (by omega)
  rw [Nat.zero_add] at hrun1 hown1
  rw [List.nil_append] at hown1
  have hb1 := app_below (Below.refl _ w) e0 hgr1
  have hrow3 : ∀ (w3 : World) (v3 : Value), w3.ownsRow w.heap.size 25 1 v3 (k + (L.length - (k + 1))) ((L.map u16V).take k ++ (L.map u16V).drop (k + 1)) → w3.ownsRow w.heap.size 25 1 v3 (delN id L).length ((delN id L).map u16V) := fun w3 v3 h => by
    rw [HDel.out, List.map_append, List.map_take, List.map_drop, List.length_append, List.length_take, List.length_drop, Nat.min_eq_left (by omega)]; exact h
  by_cases hck : c = k + 1
  · subst hck
    have hz : L.length - (k + 1) = 0 := by omega
    obtain ⟨A3, c3, w3, hrun3, hown3', hgr3, _⟩ := v_append (P := Tryd.prog) (T := 30) (ty := 30) hown1 hb1.size Tryd.underlying30 info16 rfl (by decide) (some ⟨b, 0, none⟩) 0 0 [] (Vals.nil _) (fun u hu => by cases hu) (fun e => by cases e) (by omega)
    rw [Nat.add_zero] at hrun3 hown3'
    have hown3 : w3.ownsRow w.heap.size 25 1 (.slice A3 k c3) (k + (L.length - (k + 1))) ((L.map u16V).take k ++ (L.map u16V).drop (k + 1)) := by
      rw [hz, List.drop_of_length_le (by rw [List.length_map]; omega)]; exact hown3'
    clear hown3'
    have hk2 : (L.length : Int) ≤ (k : Int) + 1 := by omega
    clear hz
    have hb3 := app_below hb1 hown1 hgr3
    have d1 := (hb1.cell (World.block_lt_of_cell? _ _ c0)).trans c0
    have d3 := (hb3.cell (World.block_lt_of_cell? _ _ c0)).trans c0
    have f3 := (World.frozen?_of_block (a := ⟨g, 0, none⟩) (hb3.block g hgl)).trans hfz
    have HRun1 := Lib.hid hrun1
    have HRun3 := Lib.hid hrun3
    have HO3 := Lib.hid (hrow3 _ _ hown3)
    have HB3 := Lib.hid hb3
    have hk0 : (0 : Int) ≤ (k : Int) := by omega
    have hk1 : (k : Int) + 1 ≤ (L.length : Int) := by omega
    clear hat hk hr hs h1 h2 hV hfz e0 hrun1 hown1 hgr1 hb1 hrun3 hown3 hgr3 hb3 hrow3
    go_enter Tryd.func19, Tryd.ntmps19
    go_wp2_with fail
    refine (rHas HR.out HS.out id true hl HD.out).mono ?_
    rintro e w9 ⟨rfl, rfl⟩
    go_wp2_with fail
    refine (rPlace HR.out id k hl HK.out).mono ?_
    rintro e w9 ⟨rfl, rfl⟩
    go_wp2_with (at_builtin; first | (refine wpList_vapp rfl _ _ _ rfl rfl rfl HRun1.out ?_; clear HRun1) | (refine wpList_vapp rfl _ _ _ rfl rfl rfl HRun3.out ?_; clear HRun3))
    go_wp2_with fail
    go_ret
    exact RI.stored HR.out HB3.out HO3.out
  · have hck2 : k + 1 < c := by omega
    have hckI : (k : Int) + 1 < (c : Int) := by omega
    have hkI : (k : Int) ≤ (c : Int) := by omega
    have hk2 : (L.length : Int) ≤ (c : Int) := by omega
    obtain ⟨A3, c3, w3, hrun3, hown3, hgr3, _⟩ := v_append (P := Tryd.prog) (T := 30) (ty := 30) hown1 hb1.size Tryd.underlying30 info16 rfl (by decide) (some ⟨b, k + 1, none⟩) (L.length - (k + 1)) (c - (k + 1)) ((L.map u16V).drop (k + 1)) (by have := (hV.below hb1).dropAt (k + 1) _ (by omega) rfl; rwa [Nat.zero_add] at this) (by rw [← List.map_drop]; exact u16_one _) (fun e => by cases e) (by omega)
    have hb3 := app_below hb1 hown1 hgr3
    have d1 := (hb1.cell (World.block_lt_of_cell? _ _ c0)).trans c0
    have d3 := (hb3.cell (World.block_lt_of_cell? _ _ c0)).trans c0
    have f3 := (World.frozen?_of_block (a := ⟨g, 0, none⟩) (hb3.block g hgl)).trans hfz
    have HRun1 := Lib.hid hrun1
    have HRun3 := Lib.hid hrun3
    have HO3 := Lib.hid (hrow3 _ _ hown3)
    have HB3 := Lib.hid hb3
    have hk0 : (0 : Int) ≤ (k : Int) := by omega
    have hk1 : (k : Int) + 1 ≤ (L.length : Int) := by omega
    clear hat hk hr hs h1 h2 hV hfz e0 hrun1 hown1 hgr1 hb1 hrun3 hown3 hgr3 hb3 hrow3
    go_enter Tryd.func19, Tryd.ntmps19
    go_wp2_with fail
    refine (rHas HR.out HS.out id true hl HD.out).mono ?_
    rintro e w9 ⟨rfl, rfl⟩
    go_wp2_with fail
    refine (rPlace HR.out id k hl HK.out).mono ?_
    rintro e w9 ⟨rfl, rfl⟩
    go_wp2_with (at_builtin; first | (refine wpList_vapp rfl _ _ _ rfl rfl rfl HRun1.out ?_; clear HRun1) | (refine wpList_vapp rfl _ _ _ rfl rfl rfl HRun3.out ?_; clear HRun3))
    go_wp2_with fail
    go_ret
    exact RI.stored HR.out HB3.out HO3.out
theorem rTakeFull (h : RI w g R L) (hl : L.length = 65535) :
    Calls Tryd.prog 17 #[.pointer (some ⟨g, 0, none⟩)] w fun e w' => e = .returned (.tuple #[.int .u16 0, .int .i64 7]) ∧ w = w' := by
  obtain ⟨v, h1, h2, _, _⟩ := h
  obtain ⟨A, c, rfl, hc, hV, _, _⟩ := vrow_form h2
  rw [hl] at h1
  have c0 := cell_of_row w g 0 _ _ _ h1
  clear hV h1 h2
  go_enter Tryd.func17, Tryd.ntmps17
  go_wp2_with fail
  go_ret2
  exact ⟨rfl, rfl⟩
set_option maxRecDepth 100000 in
set_option maxHeartbeats 4000000 in
theorem rTake (h : RI w g R L) (hs : Srt ltN L) (hp2 : ∀ i ∈ L, 1 ≤ i ∧ i ≤ 65535) (k : Nat) (M : List Nat) (hl : L.length < 65535) (hid : Lst L (k + 1)) (hM : insO ltN (k + 1) L = M) :
    Calls Tryd.prog 17 #[.pointer (some ⟨g, 0, none⟩)] w fun e w' => RkP w g R M (.tuple #[.int .u16 ((k + 1 : Nat) : Int), .int .i64 0]) e w' := by
  have hp : ∀ i ∈ L, 1 ≤ i := fun i hi => (hp2 i hi).1
  have HPB := Lib.hid hp2
  have hkl := lst_len hs hp hid
  have HAT : Hid (∀ j, j < k → L[j]? = some (j + 1)) := fun j hj => lst_at hs hp hid hj
  have HNO : Hid (L[k]? ≠ some (k + 1)) := fun e => hid.no (List.mem_of_getElem? e)
  have HMM : Hid (M = L.take k ++ (k + 1) :: L.drop k) := by show _ = _; rw [← hM]; exact lst_put hs hp hid
  have HR := Lib.hid h
  have hcnt : (((L.length : Nat) : Int) == 65535) = false := by simp; omega
  obtain ⟨v, h1, h2, _, _⟩ := h
  have hfz : w.frozen? ⟨g, 0, none⟩ = false := by unfold World.frozen?; rw [h1]; simp
  have hgl := (Array.getElem?_eq_some_iff.1 h1).1
  have e0 : w.ownsRow w.heap.size 25 1 (.slice none 0 0) 0 [] := World.ownsRow_nil _ _ _ _
  have hrow3 : ∀ (w3 : World) (v3 : Value), w3.ownsRow w.heap.size 25 1 v3 (k + 1 + (L.length - k)) (((L.map u16V).take k ++ [.int .u16 ((k : Int) + 1)]) ++ (L.map u16V).drop k) → w3.ownsRow w.heap.size 25 1 v3 M.length (M.map u16V) := fun w3 v3 h => by
    have e1 : M.length = k + 1 + (L.length - k) := by rw [HMM.out, List.length_append, List.length_cons, List.length_take, List.length_drop]; omega
    have e2 : M.map u16V = ((L.map u16V).take k ++ [.int .u16 ((k : Int) + 1)]) ++ (L.map u16V).drop k := by
      rw [HMM.out, List.map_append, List.map_cons, List.map_take, List.map_drop, List.append_assoc]; rfl
    rw [e1, e2]; exact h
  rcases vrow_cases h2 with ⟨rfl, h0⟩ | ⟨b, c, rfl, _, hc, hV⟩
  · have hk00 : k = 0 := by omega
    have hLnil : L = [] := List.eq_nil_of_length_eq_zero h0
    subst hk00
    subst hLnil
    have c0 : w.cell? ⟨g, 0, none⟩ = some (.slice none 0 0) := cell_of_row w g 0 _ _ _ h1
    obtain ⟨A1, c1, w1, hrun1, hown1, hgr1, _⟩ := v_append (P := Tryd.prog) (T := 30) (ty := 30) e0 (Nat.le_refl _) Tryd.underlying30 info16 rfl (by decide) none 0 0 [] (Vals.nil none) (fun u hu => by cases hu) (fun _ => rfl) (by omega)
    rw [Nat.add_zero] at hrun1 hown1
    rw [List.nil_append] at hown1
    have hb1 := app_below (Below.refl _ w) e0 hgr1
    obtain ⟨W1, hW1⟩ : ∃ W1, W1 = w1.alloc (.cells #[.int .u16 1] 25) := ⟨_, rfl⟩
    have hbW1 : Below w1.heap.size w1 W1 := by rw [hW1]; exact below_alloc (Below.refl _ _) _
    have hcW1 : W1.cell? ⟨w1.heap.size, 0, none⟩ = some (.int .u16 1) := by rw [hW1]; exact World.cell?_alloc_new _ _ _ _
    have hbw1 := below_more hb1 hbW1
    obtain ⟨A2, c2, w2, hrun2, hown2, hgr2, _⟩ := v_append (P := Tryd.prog) (T := 30) (ty := 30) (own_below hown1 hbW1) hbw1.size Tryd.underlying30 info16 rfl (by decide) (some ⟨w1.heap.size, 0, none⟩) 1 1 [.int .u16 1] (Vals.one hcW1) (by simp [Value.oneCell']) (fun e => by cases e) (by omega)
    rw [Nat.zero_add] at hrun2 hown2
    have hb2 := app_below hbw1 (own_below hown1 hbW1) hgr2
    obtain ⟨A3, c3, w3, hrun3, hown3, hgr3, _⟩ := v_append (P := Tryd.prog) (T := 30) (ty := 30) hown2 hb2.size Tryd.underlying30 info16 rfl (by decide) none 0 0 [] (Vals.nil none) (fun u hu => by cases hu) (fun _ => rfl) (by omega)
    rw [Nat.add_zero] at hrun3 hown3
    have hb3 := app_below hb2 hown2 hgr3
    have d1 := (hb1.cell (World.block_lt_of_cell? _ _ c0)).trans c0
    have d2 := (hb2.cell (World.block_lt_of_cell? _ _ c0)).trans c0
    have d3 := (hb3.cell (World.block_lt_of_cell? _ _ c0)).trans c0
    have f3 := (World.frozen?_of_block (a := ⟨g, 0, none⟩) (hb3.block g hgl)).trans hfz
    rw [hW1] at hrun2
    have HRun1 := Lib.hid hrun1
    have HRun2 := Lib.hid hrun2
    have HRun3 := Lib.hid hrun3
    have HO3 := Lib.hid (hrow3 w3 (.slice A3 1 c3) hown3)
    have HB3 := Lib.hid hb3
    clear h1 h2 hfz e0 hrun1 hown1 hgr1 hb1 hrun2 hown2 hgr2 hb2 hW1 hbW1 hcW1 hbw1 hrun3 hown3 hgr3 hb3 hrow3 hs hp hp2 hid hM h0 hcnt
    go_enter Tryd.func17, Tryd.ntmps17
    go_wp2_with fail
    go_loopw [4] (fun i wr => i = .int .i64 0 ∧ w = wr) (fun i _ => 0)
    case atStart => exact ⟨rfl, rfl⟩
    case round =>
      obtain ⟨rfl, rfl⟩ := hrel
      go_wp2_with (at_builtin; first | (refine wpList_vapp rfl _ _ _ rfl rfl rfl HRun1.out ?_; clear HRun1) | (refine wpList_vapp rfl _ _ _ rfl rfl rfl HRun2.out ?_; clear HRun2) | (refine wpList_vapp rfl _ _ _ rfl rfl rfl HRun3.out ?_; clear HRun3))
      go_wp2_with fail
      go_ret2
      exact RI.stored HR.out HB3.out HO3.out
  have c0 : w.cell? ⟨g, 0, none⟩ = some (.slice (some ⟨b, 0, none⟩) L.length c) := cell_of_row w g 0 _ _ _ h1
  have HCC : Hid (∀ (j z : Nat), L[j]? = some z → w.cell? ⟨b, j, none⟩ = some (.int .u16 (z : Int))) := fun j z hz => by
    have hj := (List.getElem?_eq_some_iff.1 hz).1
    obtain ⟨b1, o1, x, e1, hx, hcx⟩ := hV.at_ hj
    cases e1
    rw [List.getElem?_map, hz] at hx
    cases hx
    rwa [Nat.zero_add] at hcx
  obtain ⟨A1, c1, w1, hrun1, hown1, hgr1, _⟩ := v_append (P := Tryd.prog) (T := 30) (ty := 30) e0 (Nat.le_refl _) Tryd.underlying30 info16 rfl (by decide) (some ⟨b, 0, none⟩) k c ((L.map u16V).take k) (hV.take k hkl) (by rw [← List.map_take]; exact u16_one _) (fun e => by cases e) (by omega)
  rw [Nat.zero_add] at hrun1 hown1
  rw [List.nil_append] at hown1
  have hb1 := app_below (Below.refl _ w) e0 hgr1
  obtain ⟨W1, hW1⟩ : ∃ W1, W1 = w1.alloc (.cells #[.int .u16 ((k : Int) + 1)] 25) := ⟨_, rfl⟩
  have hbW1 : Below w1.heap.size w1 W1 := by rw [hW1]; exact below_alloc (Below.refl _ _) _
  have hcW1 : W1.cell? ⟨w1.heap.size, 0, none⟩ = some (.int .u16 ((k : Int) + 1)) := by rw [hW1]; exact World.cell?_alloc_new _ _ _ _
  have hbw1 := below_more hb1 hbW1
  obtain ⟨A2, c2, w2, hrun2, hown2, hgr2, _⟩ := v_append (P := Tryd.prog) (T := 30) (ty := 30) (own_below hown1 hbW1) hbw1.size Tryd.underlying30 info16 rfl (by decide) (some ⟨w1.heap.size, 0, none⟩) 1 1 [.int .u16 ((k : Int) + 1)] (Vals.one hcW1) (by simp [Value.oneCell']) (fun e => by cases e) (by omega)
  have hb2 := app_below hbw1 (own_below hown1 hbW1) hgr2
  by_cases hck : c = k
  · have hck2 : k = c := hck.symm
    subst hck2
    have hz : L.length - k = 0 := by omega
    obtain ⟨A3, c3, w3, hrun3, hown3', hgr3, _⟩ := v_append (P := Tryd.prog) (T := 30) (ty := 30) hown2 hb2.size Tryd.underlying30 info16 rfl (by decide) (some ⟨b, 0, none⟩) 0 0 [] (Vals.nil _) (fun u hu => by cases hu) (fun e => by cases e) (by omega)
    rw [Nat.add_zero] at hrun3 hown3'
    have hown3 : w3.ownsRow w.heap.size 25 1 (.slice A3 (k + 1) c3) (k + 1 + (L.length - k)) (((L.map u16V).take k ++ [.int .u16 ((k : Int) + 1)]) ++ (L.map u16V).drop k) := by
      rw [hz, List.drop_of_length_le (by rw [List.length_map]; omega)]; exact hown3'
    have hk2 : (L.length : Int) ≤ (k : Int) := by omega
    clear hown3' hz
    have hn : ¬ k < L.length := by omega
    have hb3 := app_below hb2 hown2 hgr3
    have d1 := (hb1.cell (World.block_lt_of_cell? _ _ c0)).trans c0
    have d2 := (hb2.cell (World.block_lt_of_cell? _ _ c0)).trans c0
    have d3 := (hb3.cell (World.block_lt_of_cell? _ _ c0)).trans c0
    have f3 := (World.frozen?_of_block (a := ⟨g, 0, none⟩) (hb3.block g hgl)).trans hfz
    rw [hW1] at hrun2
    have HRun1 := Lib.hid hrun1
    have HRun2 := Lib.hid hrun2
    have HRun3 := Lib.hid hrun3
    have HO3 := Lib.hid (hrow3 _ _ hown3)
    have HB3 := Lib.hid hb3
    have hk0 : (0 : Int) ≤ (k : Int) := by omega
    clear h1 h2 hV hfz e0 hrun1 hown1 hgr1 hb1 hrun2 hown2 hgr2 hb2 hW1 hbW1 hcW1 hbw1 hrun3 hown3 hgr3 hb3 hrow3 hs hp hp2 hid hM
    go_enter Tryd.func17, Tryd.ntmps17
    go_wp2_with fail
    go_loopw [4] (fun i wr => ∃ j : Nat, i = .int .i64 j ∧ j ≤ k ∧ w = wr) (fun i _ => k - (intOf i).toNat)
    case atStart => exact ⟨0, rfl, by omega, rfl⟩
    case round =>
      obtain ⟨j, rfl, hj, rfl⟩ := hrel
      by_cases hjk : j < k
      · have hjn : (j : Int) < (L.length : Int) := by omega
        have hj0 : (0 : Int) ≤ (j : Int) := by omega
        have hcx := HCC.out j (j + 1) (by rw [HAT.out j hjk])
        have heq : (((j + 1 : Nat) : Int) == (j : Int) + 1) = true := by simp
        have heq2 : ((j : Int) + 1 == (j : Int) + 1) = true := by simp
        go_wp2_with fail
        go_roundw
        case rel => exact ⟨j + 1, by go_num, by omega, trivial⟩
        case measure => simp [intOf]; omega
      · obtain rfl : j = k := by omega
        have hjn : ¬ (j : Int) < (L.length : Int) := by omega
        go_wp2_with (at_builtin; first | (refine wpList_vapp rfl _ _ _ rfl rfl rfl HRun1.out ?_; clear HRun1) | (refine wpList_vapp rfl _ _ _ rfl rfl rfl HRun2.out ?_; clear HRun2) | (refine wpList_vapp rfl _ _ _ rfl rfl rfl HRun3.out ?_; clear HRun3))
        go_wp2_with fail
        go_ret2
        exact RI.stored HR.out HB3.out HO3.out
  · have hckI : (k : Int) < (c : Int) := by omega
    have hkI : (k : Int) ≤ (c : Int) := by omega
    have hkL : (k : Int) ≤ (L.length : Int) := by omega
    have hk2 : (L.length : Int) ≤ (c : Int) := by omega
    obtain ⟨A3, c3, w3, hrun3, hown3, hgr3, _⟩ := v_append (P := Tryd.prog) (T := 30) (ty := 30) hown2 hb2.size Tryd.underlying30 info16 rfl (by decide) (some ⟨b, k, none⟩) (L.length - k) (c - k) ((L.map u16V).drop k) (by have := (hV.below hb2).dropAt k _ hkl rfl; rwa [Nat.zero_add] at this) (by rw [← List.map_drop]; exact u16_one _) (fun e => by cases e) (by omega)
    by_cases hn : k < L.length
    · skip
      have hb3 := app_below hb2 hown2 hgr3
      have d1 := (hb1.cell (World.block_lt_of_cell? _ _ c0)).trans c0
      have d2 := (hb2.cell (World.block_lt_of_cell? _ _ c0)).trans c0
      have d3 := (hb3.cell (World.block_lt_of_cell? _ _ c0)).trans c0
      have f3 := (World.frozen?_of_block (a := ⟨g, 0, none⟩) (hb3.block g hgl)).trans hfz
      rw [hW1] at hrun2
      have HRun1 := Lib.hid hrun1
      have HRun2 := Lib.hid hrun2
      have HRun3 := Lib.hid hrun3
      have HO3 := Lib.hid (hrow3 _ _ hown3)
      have HB3 := Lib.hid hb3
      have hk0 : (0 : Int) ≤ (k : Int) := by omega
      clear h1 h2 hV hfz e0 hrun1 hown1 hgr1 hb1 hrun2 hown2 hgr2 hb2 hW1 hbW1 hcW1 hbw1 hrun3 hown3 hgr3 hb3 hrow3 hs hp hp2 hid hM
      go_enter Tryd.func17, Tryd.ntmps17
      go_wp2_with fail
      go_loopw [4] (fun i wr => ∃ j : Nat, i = .int .i64 j ∧ j ≤ k ∧ w = wr) (fun i _ => k - (intOf i).toNat)
      case atStart => exact ⟨0, rfl, by omega, rfl⟩
      case round =>
        obtain ⟨j, rfl, hj, rfl⟩ := hrel
        by_cases hjk : j < k
        · have hjn : (j : Int) < (L.length : Int) := by omega
          have hj0 : (0 : Int) ≤ (j : Int) := by omega
          have hcx := HCC.out j (j + 1) (by rw [HAT.out j hjk])
          have heq : (((j + 1 : Nat) : Int) == (j : Int) + 1) = true := by simp
          have heq2 : ((j : Int) + 1 == (j : Int) + 1) = true := by simp
          go_wp2_with fail
          go_roundw
          case rel => exact ⟨j + 1, by go_num, by omega, trivial⟩
          case measure => simp [intOf]; omega
        · obtain rfl : j = k := by omega
          obtain ⟨z, hz⟩ : ∃ z, L[j]? = some z := ⟨L[j], List.getElem?_eq_getElem hn⟩
          have hzne : z ≠ j + 1 := fun e => HNO.out (by rw [hz, e])
          have hcx := HCC.out j z hz
          have hz5 : (z : Int) ≤ 65535 := by have := (HPB.out z (List.mem_of_getElem? hz)).2; omega
          have hz6 : (0 : Int) ≤ (z : Int) := by omega
          have hjn : (j : Int) < (L.length : Int) := by omega
          have heq : ((z : Int) == (j : Int) + 1) = false := by simp; omega
          clear hz hzne
          go_wp2_with (at_builtin; first | (refine wpList_vapp rfl _ _ _ rfl rfl rfl HRun1.out ?_; clear HRun1) | (refine wpList_vapp rfl _ _ _ rfl rfl rfl HRun2.out ?_; clear HRun2) | (refine wpList_vapp rfl _ _ _ rfl rfl rfl HRun3.out ?_; clear HRun3))
          go_wp2_with fail
          go_ret2
          exact RI.stored HR.out HB3.out HO3.out
    · skip
      have hb3 := app_below hb2 hown2 hgr3
      have d1 := (hb1.cell (World.block_lt_of_cell? _ _ c0)).trans c0
      have d2 := (hb2.cell (World.block_lt_of_cell? _ _ c0)).trans c0
      have d3 := (hb3.cell (World.block_lt_of_cell? _ _ c0)).trans c0
      have f3 := (World.frozen?_of_block (a := ⟨g, 0, none⟩) (hb3.block g hgl)).trans hfz
      rw [hW1] at hrun2
      have HRun1 := Lib.hid hrun1
      have HRun2 := Lib.hid hrun2
      have HRun3 := Lib.hid hrun3
      have HO3 := Lib.hid (hrow3 _ _ hown3)
      have HB3 := Lib.hid hb3
      have hk0 : (0 : Int) ≤ (k : Int) := by omega
      clear h1 h2 hV hfz e0 hrun1 hown1 hgr1 hb1 hrun2 hown2 hgr2 hb2 hW1 hbW1 hcW1 hbw1 hrun3 hown3 hgr3 hb3 hrow3 hs hp hp2 hid hM
      go_enter Tryd.func17, Tryd.ntmps17
      go_wp2_with fail
      go_loopw [4] (fun i wr => ∃ j : Nat, i = .int .i64 j ∧ j ≤ k ∧ w = wr) (fun i _ => k - (intOf i).toNat)
      case atStart => exact ⟨0, rfl, by omega, rfl⟩
      case round =>
        obtain ⟨j, rfl, hj, rfl⟩ := hrel
        by_cases hjk : j < k
        · have hjn : (j : Int) < (L.length : Int) := by omega
          have hj0 : (0 : Int) ≤ (j : Int) := by omega
          have hcx := HCC.out j (j + 1) (by rw [HAT.out j hjk])
          have heq : (((j + 1 : Nat) : Int) == (j : Int) + 1) = true := by simp
          have heq2 : ((j : Int) + 1 == (j : Int) + 1) = true := by simp
          go_wp2_with fail
          go_roundw
          case rel => exact ⟨j + 1, by go_num, by omega, trivial⟩
          case measure => simp [intOf]; omega
        · obtain rfl : j = k := by omega
          have hjn : ¬ (j : Int) < (L.length : Int) := by omega
          go_wp2_with (at_builtin; first | (refine wpList_vapp rfl _ _ _ rfl rfl rfl HRun1.out ?_; clear HRun1) | (refine wpList_vapp rfl _ _ _ rfl rfl rfl HRun2.out ?_; clear HRun2) | (refine wpList_vapp rfl _ _ _ rfl rfl rfl HRun3.out ?_; clear HRun3))
          go_wp2_with fail
          go_ret2
          exact RI.stored HR.out HB3.out HO3.out
end
end Go.Proofs.YtckgglgecpmikaaDoor
