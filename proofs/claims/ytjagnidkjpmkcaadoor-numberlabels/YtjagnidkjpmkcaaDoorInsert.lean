/-
  What is proved here: what slices.Insert does that puts one byte ahead of a row of bytes of the call's own.
-/
import Derived.Test.YtjagnidkjpmkcaaDoorWalkA
import Derived.Test.YtjagnidkjpmkcaaDoorRow
import Derived.Shelf.Spec.SlicesInsert
import Derived.Lib.AppendZerosOnto
import Derived.Laws.NewBlocks
namespace Go.Proofs.YtjagnidkjpmkcaaDoor
open Go.RowKit Go.Shelf Go.Lib

theorem info5 : (Tryd.prog.info? 5).map (fun i => (i.zero, i.size, i.bytes)) = some (some (.int .u8 0), 1, 1) := by kernel_rfl
theorem size5 : (Tryd.prog.info? 5).map (·.size) = some 1 := by kernel_rfl

/-- What cells are laid into a block leaves it such a block. -/
theorem setCells_block (g : Nat) (e : TypeId) (fz : Nat × Nat) : ∀ (vs : List Value) (o : Nat) (w : World) (cur : Array Value), w.heap[g]? = some (.cells cur e fz) →
    ∃ cur', (w.setCells g o vs).heap[g]? = some (.cells cur' e fz) ∧ cur'.size = cur.size
  | [], _, _, cur, h => ⟨cur, h, rfl⟩
  | v :: r, o, w, cur, h => by
    have h1 : (w.setCell ⟨g, o, none⟩ v).heap[g]? = some (.cells (cur.setIfInBounds o v) e fz) := by simp [World.setCell, Array.getElem?_modify, h]
    obtain ⟨c, h2, h3⟩ := setCells_block g e fz r (o + 1) _ _ h1
    exact ⟨c, h2, by rw [h3]; simp⟩

theorem setCells_below {B g : Nat} (hg : B ≤ g) : ∀ (vs : List Value) (o : Nat) (a w : World), Below B a w → Below B a (w.setCells g o vs)
  | [], _, _, _, h => h
  | v :: r, o, a, _, h => setCells_below hg r (o + 1) a _ (h.setCell hg v)

theorem ownsRow_of_cells {W : World} {base g cap : Nat} {cur : Array Value} {xs : List Value} (hb : base ≤ g) (h : W.heap[g]? = some (.cells cur 5 (0, 0))) (hs : cur.size = cap) (hn : xs.length ≤ cap) (hm : cap ≤ maxLen) (hc : ∀ j u, xs[j]? = some u → W.cell? ⟨g, j, none⟩ = some u) :
    W.ownsRow base 5 1 (.slice (some ⟨g, 0, none⟩) xs.length cap) xs.length xs := by
  refine ⟨by simp, .inr ⟨g, cap, cur, rfl, hb, h, hn, hm, by simp [hs], ?_⟩⟩
  apply List.ext_getElem?
  intro j
  rw [Nat.mul_one, List.getElem?_take]
  by_cases hj : j < xs.length
  · rw [if_pos hj]
    have := hc j xs[j] (by simp [hj])
    simp [World.cell?, h] at this
    simp [this, hj]
  · rw [if_neg hj, List.getElem?_eq_none (by omega)]

/-- One value ahead of a row whose cells have been moved up. -/
theorem moved_row {W : World} {base g cap : Nat} {cur : Array Value} {x : Value} {xs : List Value} (hb : base ≤ g) (h : W.heap[g]? = some (.cells cur 5 (0, 0))) (hs : cur.size = cap) (hn : xs.length + 1 ≤ cap) (hm : cap ≤ maxLen) :
    ((W.setCells g 1 xs).setCells g 0 [x]).ownsRow base 5 1 (.slice (some ⟨g, 0, none⟩) (xs.length + 1) cap) (xs.length + 1) (x :: xs) := by
  obtain ⟨c1, h1, s1⟩ := setCells_block g 5 (0, 0) xs 1 W cur h
  obtain ⟨c2, h2, s2⟩ := setCells_block g 5 (0, 0) [x] 0 _ c1 h1
  have hsome : ∀ k, k < cap → (W.cell? ⟨g, k, none⟩).isSome = true := fun k hk => by simp [World.cell?, h, hs, hk]
  have hsome1 : ∀ k, k < cap → ((W.setCells g 1 xs).cell? ⟨g, k, none⟩).isSome = true := fun k hk => by simp [World.cell?, h1, s1, hs, hk]
  refine ownsRow_of_cells (xs := x :: xs) hb h2 (by rw [s2, s1, hs]) hn hm fun j u hj => ?_
  cases j with
  | zero =>
    have := World.cell?_setCells_in g [x] 0 (W.setCells g 1 xs) (fun k hk => hsome1 _ (by simp at hk; omega)) 0 (by simp)
    rw [Nat.add_zero] at this
    rw [this]
    simpa using hj
  | succ i =>
    rw [List.getElem?_cons_succ] at hj
    have hi : i < xs.length := by
      by_cases h' : i < xs.length
      · exact h'
      · rw [List.getElem?_eq_none (by omega)] at hj; cases hj
    rw [World.cell?_setCells_out g _ _ _ _ (fun _ _ => .inr (by simp))]
    have := World.cell?_setCells_in g xs 1 W (fun k hk => hsome _ (by omega)) i hi
    rw [Nat.add_comm i 1, this, ← hj]
    simp [hi]

set_option maxHeartbeats 4000000 in
set_option maxRecDepth 100000 in
theorem insert_room (B g cap : Nat) (x : Value) (xs : List Value) (vb : Nat) (w : World) (hx1 : x.oneCell' = true) (h1 : ∀ u ∈ xs, u.oneCell' = true) (hn : 0 < xs.length) (hroom : xs.length + 1 ≤ cap) (hcap : cap ≤ maxLen) (cur : Array Value)
    (hg : w.heap[g]? = some (.cells cur 5 (0, 0))) (hcs : cur.size = cap) (hcell : ∀ j u, xs[j]? = some u → w.cell? ⟨g, j, none⟩ = some u) (hvb : w.heap[vb]? = some (.cells #[x] 5 (0, 0))) (hne : vb ≠ g) (hB : B ≤ g) :
    Calls Tryd.prog 36 #[.slice (some ⟨g, 0, none⟩) xs.length cap, .int .i64 0, .slice (some ⟨vb, 0, none⟩) 1 1] w fun e w' =>
      ∃ v', e = .returned v' ∧ w'.ownsRow B 5 1 v' (x :: xs).length (x :: xs) ∧ Below B w w' := by
  obtain ⟨n, hnl⟩ : ∃ n, n = xs.length := ⟨_, rfl⟩
  rw [← hnl] at hroom hn ⊢
  show Calls _ _ _ _ (fun e w' => ∃ v', e = .returned v' ∧ w'.ownsRow B 5 1 v' (xs.length + 1) (x :: xs) ∧ Below B w w')
  rw [← hnl]
  have hz2 : ¬ ((n : Int) = 0) := by omega
  have hz2' : ¬ ((0 : Int) = (n : Int)) := by omega
  have hz3 : ¬ ((cap : Int) < (n : Int) + 1) := by omega
  have hsv : w.shape? vb = some (5, 1) := by simp [World.shape?, hvb]
  have hsg : w.shape? g = some (5, cap) := by simp [World.shape?, hg, hcs]
  have hfv : w.frozen? ⟨vb, 0, none⟩ = false := Lib.frozen_of_heap hvb 0
  have hfv1 : w.frozen? ⟨vb, 1, none⟩ = false := Lib.frozen_of_heap hvb 1
  have hov : ∀ lb cb, (callFunc 40 #[.slice (some ⟨vb, 0, none⟩) 1 1, .slice (some ⟨g, 1, none⟩) lb cb]).run Tryd.prog w = .ok (.value (.bool false)) w := fun lb cb => by
    rw [run_callFunc_extern Tryd.func40 (by kernel_rfl) (by kernel_rfl) (by kernel_rfl) (e := Extern.SlicesOverlaps.overlaps #[58, 58] #[4]) (by kernel_rfl),
      Lib.run_overlaps_apart w 58 4 5 Tryd.underlying58 1 Tryd.sizeOf5 ⟨vb, 0, none⟩ ⟨g, 1, none⟩ 1 1 lb cb hne 5 5 1 cap hsv hsg (by omega) hfv hfv1]
    rfl
  have hcm : cap ≤ 9223372036854775807 := by unfold maxLen at hcap; omega
  have hsome : ∀ k, k < cap → (w.cell? ⟨g, k, none⟩).isSome = true := fun k hk => by simp [World.cell?, hg, hcs, hk]
  have hfg : ∀ k, w.frozen? ⟨g, k, none⟩ = false := fun k => Lib.frozen_of_heap hg k
  have hcp1 : ∀ ty dc sc, (Builtin.copy_ #[58, 58] ty #[.slice (some ⟨g, 1, none⟩) n dc, .slice (some ⟨g, 0, none⟩) (n + 1) sc]).run Tryd.prog w.drew = .ok (goInt xs.length) (w.drew.setCells g 1 xs) := fun ty dc sc =>
    run_copy_cells w.drew _ _ ty 5 g 1 n dc ⟨g, 0, none⟩ (n + 1) sc xs Tryd.underlying58 size5 (by rw [← hnl]; simp only [Nat.min_def]; split <;> omega)
      (fun j v hj => by rw [addr_add0]; exact hcell j v hj)
      (fun j hj => hsome _ (by omega)) (fun j hj => hfg _) h1
  obtain ⟨W1, hW1⟩ : ∃ W1, W1 = w.drew.setCells g 1 xs := ⟨_, rfl⟩
  have hW1b : Below B w W1 := by rw [hW1]; exact setCells_below hB xs 1 w _ (Below.refl B w).drew
  obtain ⟨cur1, hg1, hs1⟩ : ∃ cur1, W1.heap[g]? = some (.cells cur1 5 (0, 0)) ∧ cur1.size = cur.size := by rw [hW1]; exact setCells_block g 5 (0, 0) xs 1 w.drew cur hg
  have hv1 : W1.cell? ⟨vb, 0, none⟩ = some x := by
    rw [hW1, World.cell?_setCells_out g _ _ _ _ (fun h _ => absurd h hne)]
    show w.cell? _ = _
    rw [Lib.cell_of_heap hvb]; rfl
  have hsm1 : ∀ k, k < cap → (W1.cell? ⟨g, k, none⟩).isSome = true := fun k hk => by simp [World.cell?, hg1, hs1, hcs, hk]
  have hcp2 : ∀ (W : World), (∀ y, W.cell? y = W1.cell? y) → (∀ y, W.frozen? y = W1.frozen? y) → ∀ ty dc, (Builtin.copy_ #[58, 58] ty #[.slice (some ⟨g, 0, none⟩) (n + 1) dc, .slice (some ⟨vb, 0, none⟩) 1 1]).run Tryd.prog W = .ok (goInt [x].length) (W.setCells g 0 [x]) := fun W hWc hWf ty dc =>
    run_copy_cells W _ _ ty 5 g 0 (n + 1) dc ⟨vb, 0, none⟩ 1 1 [x] Tryd.underlying58 size5 (by simp only [Nat.min_def, List.length_singleton]; split <;> omega)
      (fun j v hj => by
        have : j = 0 := by
          by_cases h : j = 0
          · exact h
          · rw [List.getElem?_eq_none (by simp; omega)] at hj; cases hj
        subst this
        rw [addr_add0, hWc, hv1]; exact hj)
      (fun j hj => by rw [hWc, Nat.zero_add]; exact hsm1 _ (by simp at hj; omega)) (fun j hj => by rw [hWf]; exact Lib.frozen_of_heap hg1 _) (fun v hv => by simp at hv; rw [hv]; exact hx1)
  rw [← hW1] at hcp1
  have hfin : Hid (((w.drew.setCells g 1 xs).setCells g 0 [x]).ownsRow B 5 1 (.slice (some ⟨g, 0, none⟩) (n + 1) cap) (n + 1) (x :: xs)) := by
    rw [hnl]
    exact moved_row hB (W := w.drew) hg hcs (by omega) hcap
  have hfinB : Hid (Below B w ((w.drew.setCells g 1 xs).setCells g 0 [x])) := setCells_below hB [x] 0 w _ (hW1 ▸ hW1b)
  clear hcell h1 hsome hnl
  have mixed : Tryd.prog.follows Departure.mixedOrders = true := by kernel_rfl
  have hw1 : IntKind.i64.wrap 1 = 1 := by rw [IntKind.wrap_i64]; rfl
  have hb1 : (1 : Int) ≤ (n : Int) + 1 := by omega
  have hb2 : ¬ (cap = 1) := by omega
  have hb3 : ¬ (cap = 0) := by omega
  have hb4 : (0 : Int) ≤ (n : Int) + 1 := by omega
  go_enter Tryd.func36, Tryd.ntmps36
  go_wp2_with (simp only [hov])
  go_region_law_o (refine step_copy_runI rfl _ _ 58 58 rfl _ _ (by simp [Act.eval, Act.put]) (by simp [Act.eval, Act.put]) (hcp1 _ _ _) ?_)
  go_wp2_with (at_builtin; refine wpList_copy_runI _ rfl _ _ 58 58 rfl _ _ rfl rfl (hcp2 _ (fun _ => rfl) (fun _ => rfl) _ _) ?_)
  go_ret
  refine ⟨_, rfl, ?_, ?_⟩
  · exact hfin.out
  · exact hfinB.out

theorem moved_row2 {W : World} {base g cap : Nat} {cur : Array Value} {x : Value} {xs : List Value} (hb : base ≤ g) (h : W.heap[g]? = some (.cells cur 5 (0, 0))) (hs : cur.size = cap) (hn : xs.length + 1 ≤ cap) (hm : cap ≤ maxLen) :
    ((W.setCells g 0 [x]).drew.setCells g 1 xs).ownsRow base 5 1 (.slice (some ⟨g, 0, none⟩) (xs.length + 1) cap) (xs.length + 1) (x :: xs) := by
  obtain ⟨c1, h1, s1⟩ := setCells_block g 5 (0, 0) [x] 0 W cur h
  have h1' : (W.setCells g 0 [x]).drew.heap[g]? = some (.cells c1 5 (0, 0)) := h1
  obtain ⟨c2, h2, s2⟩ := setCells_block g 5 (0, 0) xs 1 _ c1 h1'
  have hsome : ∀ k, k < cap → (W.cell? ⟨g, k, none⟩).isSome = true := fun k hk => by simp [World.cell?, h, hs, hk]
  have hsome1 : ∀ k, k < cap → ((W.setCells g 0 [x]).drew.cell? ⟨g, k, none⟩).isSome = true := fun k hk => by
    show ((W.setCells g 0 [x]).cell? _).isSome = true
    simp [World.cell?, h1, s1, hs, hk]
  refine ownsRow_of_cells (xs := x :: xs) hb h2 (by rw [s2, s1, hs]) hn hm fun j u hj => ?_
  cases j with
  | zero =>
    rw [World.cell?_setCells_out g _ _ _ _ (fun _ _ => .inl (by simp))]
    show (W.setCells g 0 [x]).cell? _ = _
    have := World.cell?_setCells_in g [x] 0 W (fun k hk => hsome _ (by simp at hk; omega)) 0 (by simp)
    rw [Nat.add_zero] at this
    rw [this]
    simpa using hj
  | succ i =>
    rw [List.getElem?_cons_succ] at hj
    have hi : i < xs.length := by
      by_cases h' : i < xs.length
      · exact h'
      · rw [List.getElem?_eq_none (by omega)] at hj; cases hj
    have := World.cell?_setCells_in g xs 1 (W.setCells g 0 [x]).drew (fun k hk => hsome1 _ (by omega)) i hi
    rw [Nat.add_comm i 1, this, ← hj]
    simp [hi]

theorem firstCells_zero (w : World) (g cap : Nat) : (Builtin.firstCells 1 0 (.slice (some ⟨g, 0, none⟩) 0 cap)).run Tryd.prog w = .ok ([] : List Value).toArray w :=
  run_firstCells_some w 1 0 ⟨g, 0, none⟩ 0 cap [] (by simp) (fun j v hj => by simp at hj)

set_option maxHeartbeats 4000000 in
set_option maxRecDepth 100000 in
theorem insert_grow (B g : Nat) (x : Value) (xs : List Value) (vb : Nat) (w : World) (hx1 : x.oneCell' = true) (h1 : ∀ u ∈ xs, u.oneCell' = true) (hn : 0 < xs.length) (hsm : xs.length ≤ 1000000)
    (hcell : ∀ j u, xs[j]? = some u → w.cell? ⟨g, j, none⟩ = some u) (hgw : g < w.heap.size) (hvb : w.heap[vb]? = some (.cells #[x] 5 (0, 0))) (hB : B ≤ w.heap.size) :
    Calls Tryd.prog 36 #[.slice (some ⟨g, 0, none⟩) xs.length xs.length, .int .i64 0, .slice (some ⟨vb, 0, none⟩) 1 1] w fun e w' =>
      ∃ v', e = .returned v' ∧ w'.ownsRow B 5 1 v' (x :: xs).length (x :: xs) ∧ Below B w w' := by
  obtain ⟨i0, hi0, hz0, hzs, hzb⟩ := info_parts info5
  obtain ⟨n, hnl⟩ : ∃ n, n = xs.length := ⟨_, rfl⟩
  show Calls _ _ _ _ (fun e w' => ∃ v', e = .returned v' ∧ w'.ownsRow B 5 1 v' (xs.length + 1) (x :: xs) ∧ Below B w w')
  rw [← hnl] at hsm hn ⊢
  have hvw : vb < w.heap.size := (Array.getElem?_eq_some_iff.1 hvb).1
  obtain ⟨G, hG⟩ : ∃ G, G = grownCap w (n + 1) n 5 := ⟨_, rfl⟩
  have hGn : n + 1 ≤ G := by rw [hG]; exact grownCap_ge w _ _ _
  have hGm : G ≤ maxLen := by rw [hG]; exact grownCap_le_maxLen w _ _ _ (by unfold maxLen; omega)
  obtain ⟨ROW, hROW⟩ : ∃ ROW : Array Value, ROW = ([] : List Value).toArray ++ Builtin.zeroCells (Value.int .u8 0).cells (n + 1) ++ Builtin.zeroCells (Value.int .u8 0).cells (G - (n + 1)) := ⟨_, rfl⟩
  have hRl : ROW.size = G := by
    rw [hROW]
    simp [Builtin.zeroCells, Value.cells]
    omega
  have hrz : ∀ ty, (Builtin.append_ #[58, 3] ty #[.slice (some ⟨g, 0, none⟩) 0 n, .int .i64 ((n : Int) + 1)]).run Tryd.prog w =
      .ok (.slice (some ⟨w.heap.size, 0, none⟩) (n + 1) G) (w.drew.alloc (.cells ROW 5)) := fun ty => by
    have h := Lib.run_append_grow_zeros w 58 3 ty 5 i0 _ .i64 .i64 Tryd.underlying58 Tryd.underlying3 hi0 hz0 (some ⟨g, 0, none⟩) 0 n [] (by rw [hzs]; exact firstCells_zero w.drew g n) (n + 1) (by omega) (by omega) (by omega) (by omega) (by rw [hzb]; omega) (by rw [hzb]; exact growslice_fits (by omega) (by omega))
    rw [Nat.zero_add] at h
    rw [hROW, hG]
    exact h
  have hNew : ((w.alloc (.cells ROW 5)).drew).heap[w.heap.size]? = some (.cells ROW 5 (0, 0)) := heap_new w _
  have hold : ∀ k, k < w.heap.size → ((w.alloc (.cells ROW 5)).drew).heap[k]? = w.heap[k]? := fun k hk => Below.heap_alloc w _ k hk
  obtain ⟨W1, hW1⟩ : ∃ W1, W1 = (w.alloc (.cells ROW 5)).drew := ⟨_, rfl⟩
  rw [← hW1] at hNew hold
  obtain ⟨cur2, hN2, hs2⟩ := setCells_block w.heap.size 5 (0, 0) [x] 0 W1 ROW hNew
  have hcpA : ∀ ty dc, (Builtin.copy_ #[58, 58] ty #[.slice (some ⟨w.heap.size, 0, none⟩) (n + 1) dc, .slice (some ⟨vb, 0, none⟩) 1 1]).run Tryd.prog W1 = .ok (goInt [x].length) (W1.setCells w.heap.size 0 [x]) := fun ty dc =>
    run_copy_cells W1 _ _ ty 5 w.heap.size 0 (n + 1) dc ⟨vb, 0, none⟩ 1 1 [x] Tryd.underlying58 size5 (by simp only [Nat.min_def, List.length_singleton]; split <;> omega)
      (fun j v hj => by
        have : j = 0 := by
          by_cases h : j = 0
          · exact h
          · rw [List.getElem?_eq_none (by simp; omega)] at hj; cases hj
        subst this
        rw [addr_add0]
        have e : W1.cell? ⟨vb, 0, none⟩ = some x := by simp [World.cell?, hold vb hvw, hvb]
        rw [e]; exact hj)
      (fun j hj => by simp at hj; subst hj; simp [World.cell?, hNew]; omega) (fun j hj => Lib.frozen_of_heap hNew _) (fun v hv => by simp at hv; rw [hv]; exact hx1)
  have hcpB : ∀ ty dc sc, (Builtin.copy_ #[58, 58] ty #[.slice (some ⟨w.heap.size, 1, none⟩) n dc, .slice (some ⟨g, 0, none⟩) n sc]).run Tryd.prog (W1.setCells w.heap.size 0 [x]).drew = .ok (goInt xs.length) ((W1.setCells w.heap.size 0 [x]).drew.setCells w.heap.size 1 xs) := fun ty dc sc =>
    run_copy_cells _ _ _ ty 5 w.heap.size 1 n dc ⟨g, 0, none⟩ n sc xs Tryd.underlying58 size5 (by rw [← hnl]; simp only [Nat.min_def]; split <;> omega)
      (fun j v hj => by
        rw [addr_add0]
        show (W1.setCells w.heap.size 0 [x]).cell? _ = _
        rw [World.cell?_setCells_out _ _ _ _ _ (fun h _ => absurd h (by show g ≠ _; omega))]
        have := hcell j v hj
        simp [World.cell?] at this ⊢
        rw [hold g hgw]; exact this)
      (fun j hj => by show ((W1.setCells w.heap.size 0 [x]).cell? _).isSome = true; simp [World.cell?, hN2, hs2, hRl]; omega)
      (fun j hj => by show (W1.setCells w.heap.size 0 [x]).frozen? _ = false; exact Lib.frozen_of_heap hN2 _) h1
  have hfin : Hid (((W1.setCells w.heap.size 0 [x]).drew.setCells w.heap.size 1 xs).ownsRow B 5 1 (.slice (some ⟨w.heap.size, 0, none⟩) (n + 1) G) (n + 1) (x :: xs)) := by
    show World.ownsRow _ _ _ _ _ _ _
    rw [hnl]
    exact moved_row2 hB hNew hRl (by omega) hGm
  have hfinB : Hid (Below B w ((W1.setCells w.heap.size 0 [x]).drew.setCells w.heap.size 1 xs)) := by
    refine setCells_below hB xs 1 w _ (Below.drew (setCells_below hB [x] 0 w _ ?_))
    rw [hW1]
    exact ((Below.refl B w).alloc hB _).drew
  have hz2 : ¬ ((n : Int) = 0) := by omega
  have hz2' : ¬ ((0 : Int) = (n : Int)) := by omega
  have mixed : Tryd.prog.follows Departure.mixedOrders = true := by kernel_rfl
  have hw1 : IntKind.i64.wrap 1 = 1 := by rw [IntKind.wrap_i64]; rfl
  have hb1 : (1 : Int) ≤ (n : Int) + 1 := by omega
  have hb2 : ¬ (G = 1) := by omega
  have hb3 : ¬ (G = 0) := by omega
  have hb4 : (0 : Int) ≤ (n : Int) + 1 := by omega
  have hb5 : ¬ (n = 0) := by omega
  have hb6 : (0 : Int) ≤ (n : Int) := by omega
  rw [hW1] at hcpA hcpB hfin hfinB
  clear hcell h1 hnl hNew hold hN2 hRl hROW hG hW1
  go_enter Tryd.func36, Tryd.ntmps36
  go_wp2_with (first
    | (at_builtin; refine Lib.wpList_append_run _ rfl _ _ _ _ rfl _ _ rfl rfl _ _ (hrz _) ?_)
    | (at_builtin; refine wpList_copy_runI _ rfl _ _ 58 58 rfl _ _ rfl rfl (hcpA _ _) ?_))
  go_region_law_o (refine step_copy_runI rfl _ _ 58 58 rfl _ _ (by simp [Act.eval, Act.put]) (by simp [Act.eval, Act.put]) (hcpB _ _ _) ?_)
  go_wp2_with fail
  go_ret
  exact ⟨_, rfl, hfin.out, hfinB.out⟩

end Go.Proofs.YtjagnidkjpmkcaaDoor
