/-
  What is proved here: the columns of a table, one round a column; how they are gathered.
-/
import Derived.Test.YtkhnfmdhdfpdhaaGrH
namespace Go.Proofs.Ytkhnfmdhdfpdhaa
open Go.RowKit Go.Shelf
attribute [local go_sem] Oper.semAt_some wide_fn wide_depth

set_option maxHeartbeats 400000 in
theorem columns_any (c : Nat) (v : Value) (w : World) : Calls Try.prog 27 #[.agg #[.int .i64 c, v]] w fun e w' => e = .returned (.func (.func 43) #[] #[.pointer (some ⟨w.heap.size, 0, none⟩)]) ∧ w' = w.alloc (.cells #[.int .i64 c, v] 24) := by
  go_enter Try.func27, Try.ntmps27
  go_wp2
  go_ret
  exact ⟨rfl, rfl⟩
/-- A table that may be, in memory. -/
structure Tab (c : Nat) (l : List ByteArray) : Prop where
  hc : 1 ≤ c ∧ c ≤ 8
  hl : 1 ≤ l.length ∧ l.length ≤ 64
  hd : l.length % c = 0
  ha : Cells l
structure ReadT (Bt c : Nat) (v : Value) (l : List ByteArray) (W : World) : Prop where
  box : TB W Bt c v
  st : StrsAt W v l
def coV (q : Co) : Value := .agg #[.int .i64 q.s, .int .i64 q.m]
def encT (c : Nat) (l : List ByteArray) (i : Nat) : Array Value := #[coV (colI c l i)]

set_option maxRecDepth 100000 in
set_option maxHeartbeats 2000000 in
theorem columns1_gives (Bt c : Nat) (v : Value) (l : List ByteArray) (hT : Tab c l) :
    Gives Try.prog 43 #[.pointer (some ⟨Bt, 0, none⟩)] c (encT c l) (ReadT Bt c v l) := by
  intro lo J Jx W hJ hJx hRd hY h0
  refine callsIn_wide (n := 0).1 ?_
  refine callsIn_of_wp Try.func43 rfl trivial ?_ rfl
  simp only [Try.ntmps43, List.size_toArray, List.length_cons, List.length_nil, Nat.reduceAdd, Nat.reduceSub, Array.replicate_succ, Array.replicate_zero, List.push_toArray, List.append_toArray, List.nil_append, List.cons_append]
  have hc0 := (hRd _ _ _ h0).box.c0
  obtain ⟨n1, n2⟩ := hT.hc
  have hfin : Hid (∀ X W', J c X W' → J c Noth W') := fun X W' h => hJ _ _ _ _ _ h (Turns.refl _ _) (fun _ h => h.elim)
  gi_wp2
  gi_loopw [6] (fun q wr => ∃ (k : Nat) (X : Nat → Prop), k ≤ c ∧ q = .int .i64 (k : Nat) ∧ J k X wr) (fun q _ => c - (intOf q).toNat)
  case atStart => exact ⟨0, Noth, Nat.zero_le _, rfl, h0⟩
  case round =>
    obtain ⟨k, X, hk, rfl, hJs⟩ := hrel
    by_cases hlt : k < c
    · have hlt' : (k : Int) < c := by omega
      have hR := hRd _ _ _ hJs
      have t0 := hR.box.c0
      have t1 := hR.box.c1
      have hm := measure_any c v l hT.hc hT.hl.2 hT.hd hT.ha k hlt wr hR.st
      have hYk := fun (W1 : World) (h : Below wr.heap.size wr W1) => hY k X W1 hlt (hJ _ _ _ _ _ hJs (Turns.of_below h |>.mono (fun _ h => h.elim)) (fun _ h => .inl h))
      unfold encT coV at hYk
      clear hRd hY hJs hR h0 hc0
      generalize (colI c l k).s = x at *
      generalize (colI c l k).m = y at *
      gi_wp2_with fail
      refine (callsIn_wide.2 hm).mono ?_
      rintro e w1 ⟨rfl, b1⟩
      obtain ⟨fn, tmps, assign, body, hy, hR⟩ := hYk w1 b1
      clear hYk hm t0 t1
      gi_wp2_with fail
      refine hR.mono ?_
      rintro e W3 ⟨hk3, (⟨rfl, hJ3⟩ | ⟨rfl, hJx3⟩)⟩
      · gi_wp2
        go_roundw
        case rel => exact ⟨k + 1, X, by omega, by simp, hJ3⟩
        case measure => simp [intOf]; omega
      · gi_wp2
        refine bodyPost_ret (results_none rfl _ _ _) rfl ?_
        exact ⟨⟨_, rfl⟩, .inr ⟨k, hlt, hJx _ _ _ _ _ hJx3 (Turns.refl _ _) (fun _ h => h.elim)⟩⟩
    · obtain rfl : k = c := by omega
      have hJe := hfin.out X wr hJs
      have hge : ¬ (k : Int) < k := by omega
      clear hRd hY hJs h0 hc0
      gi_wp2
      go_end0
      exact ⟨⟨_, rfl⟩, .inl hJe⟩

/-- The first columns, as a row. -/
def rowT (c : Nat) (l : List ByteArray) (k : Nat) : List Value := ((List.range k).map (colI c l)).flatMap coL
theorem rowT_succ (c : Nat) (l : List ByteArray) (k : Nat) : rowT c l (k + 1) = rowT c l k ++ coL (colI c l k) := by
  unfold rowT
  rw [List.range_succ, List.map_append, List.flatMap_append]; simp
theorem rowT_all (c : Nat) (l : List ByteArray) : rowT c l c = (cols c l).flatMap coL := rfl
theorem info55z : (Try.prog.info? 55).map (fun i => (i.zero, i.size, i.bytes)) = some (some (.agg #[.int .i64 0, .int .i64 0]), 2, 16) := by kernel_rfl
theorem coC (q : Co) : (coL q).toArray = #[.int .i64 q.s, .int .i64 q.m] := rfl

set_option maxRecDepth 100000 in
set_option maxHeartbeats 2000000 in
theorem appendSeq_any (Bt c : Nat) (v : Value) (l : List ByteArray) (hT : Tab c l) (w : World) (hR : ReadT Bt c v l w) (hvb : ∀ g, v.ownBlock = some g → g < w.heap.size) :
    Calls Try.prog 46 #[.slice none 0 0, .func (.func 43) #[] #[.pointer (some ⟨Bt, 0, none⟩)]] w fun e w' => ∃ u, e = .returned u ∧ w'.ownsRow w.heap.size 55 2 u c (rowT c l c) ∧ Below w.heap.size w w' := by
  obtain ⟨n1, n2⟩ := hT.hc
  have hBt := hR.box.lt
  refine callsIn_wide (n := 0).1 ?_
  refine callsIn_of_wp_marks Try.func46 rfl trivial ?_ rfl
  simp only [Try.ntmps46, List.size_toArray, List.length_cons, List.length_nil, Nat.reduceAdd, Nat.reduceSub, Array.replicate_succ, Array.replicate_zero, List.push_toArray, List.append_toArray, List.nil_append, List.cons_append]
  gi_wp2
  obtain ⟨w1, hw1⟩ : ∃ w1, w.alloc (.cells #[.slice none 0 0] 58) = w1 := ⟨_, rfl⟩
  have hs1 : w1.heap.size = w.heap.size + 1 := by rw [← hw1]; simp
  have hT1 : Turns Noth w w1 := by rw [← hw1]; exact Turns.alloc _ _ _
  have hB1 : w1.heap[w.heap.size]? = some (.cells #[.slice none 0 0] 58) := by rw [← hw1]; exact World.alloc_heap_new w _
  have hR1 : ∀ (X : Nat → Prop) W, Turns X w1 W → (∀ k, X k → w.heap.size ≤ k) → ReadT Bt c v l W := fun X W hX hx => by
    have hTX : Turns X w W := (hT1.mono (fun _ h => h.elim)).trans hX
    refine ⟨hR.box.turns hTX (fun h => by have := hx _ h; omega), ?_⟩
    have h1 := hR.st
    obtain ⟨⟨a, cap, rfl, h2⟩, hle⟩ := h1
    refine ⟨⟨a, cap, rfl, ?_⟩, hle⟩
    rcases h2 with h2 | ⟨b, o, rfl, hlt, hc⟩
    · exact .inl h2
    · refine .inr ⟨b, o, rfl, Nat.lt_of_lt_of_le hlt hTX.size, fun i hi => ?_⟩
      rw [← hc i hi]
      unfold World.cell?
      rw [hTX.block b hlt (fun h => by have := hx _ h; omega)]
  obtain ⟨i0, hi, hz0, hz1, hz2⟩ := info_parts info55z
  rw [hw1]
  refine wp_range (gf := 43) (lb := #[.pointer (some ⟨Bt, 0, none⟩)]) rfl (enters_of Try.func43 (by kernel_rfl) rfl) (columns1_gives Bt c v l hT) (fun _ => rfl)
    (fun j X W => Base w1 (fun k => k = w.heap.size) X W ∧ ∃ u, W.heap[w.heap.size]? = some (.cells #[u] 58) ∧ W.ownsRow w1.heap.size 55 2 u j (rowT c l j) ∧ ∀ g, u.ownBlock = some g → ¬ X g)
    (fun _ _ _ _ => False)
    (fun a' j X W => (Base w1 (fun k => k = w.heap.size) X W ∧ ∃ u, W.heap[w.heap.size]? = some (.cells #[u] 58) ∧ W.ownsRow w1.heap.size 55 2 u j (rowT c l j) ∧ ∀ g, u.ownBlock = some g → ¬ X g) ∧
      ∃ B, ¬ X B ∧ W.heap[B]? = some (.cells (coL (colI c l j)).toArray 55) ∧
      a' = { tmps := #[.slice none 0 0, .func (.func 43) #[] #[.pointer (some ⟨Bt, 0, none⟩)], .pointer (some ⟨w.heap.size, 0, none⟩), undef, .slice none 0 0, .pointer (some ⟨B, 0, none⟩), .func (.func 43) #[] #[.pointer (some ⟨Bt, 0, none⟩)], coV (colI c l j), undef, undef, undef, undef, undef], defers := [] })
    (steady_row (by omega) _ _ _ _ _ _) (fun _ => steady_never) (fun a' => (steady_row (by omega) _ _ _ _ _ _).and (steady_round a' _ _)) ?hR ⟨Base.start _ _, _, hB1, World.ownsRow_nil _ _ _ _, fun g hg => by cases hg⟩ ?assign ?body ?done ?stop
  case hR =>
    rintro i X W ⟨hb, _⟩
    exact hR1 _ _ hb.turns (fun k h => by omega)
  case assign =>
    rintro lo j X W K hj ⟨hb, u, hu, hr, hg⟩ hK
    unfold encT coV
    gi_wp2
    exact hK _ _ (Keeps.alloc _ _ _) ⟨⟨hb.alloc _, u, (Below.heap_alloc _ _ _ (by have := hb.turns.size; omega)).trans hu, hr.alloc _, hg⟩, W.heap.size, hb.fresh, World.alloc_heap_new _ _, rfl⟩
  case body =>
    rintro lo j X a' W hj ⟨⟨hb, u, hu, hrow, hg⟩, B, hB, hr, rfl⟩
    have hc0 : W.cell? ⟨w.heap.size, 0, none⟩ = some u := by rw [Lib.cell_of_heap hu]; rfl
    have hr0 : W.cell? ⟨B, 0, none⟩ = some (.int .i64 (colI c l j).s) := by rw [Lib.cell_of_heap hr]; rfl
    have hr1 : W.cell? ⟨B, 1, none⟩ = some (.int .i64 (colI c l j).m) := by rw [Lib.cell_of_heap hr]; rfl
    have hbs := hb.turns.size
    gi_wp2_with (gi_at_builtin; refine wpListIn_append_where _ rfl _ _ 58 rfl w1.heap.size 55 i0 _ 2 16 Try.underlying58 hi hz0 hz1 hz2 rfl (by decide) u _ _ rfl (hrow.alloc _) ⟨W.heap.size, 0, none⟩ 1 1 (coL (colI c l j)) rfl rfl (cells_new W _ _) (coL_one _) (by unfold maxLen; omega) (by omega) (by simp; omega) ?_; intro v' w2 hown' hgrow hwh; rw [← rowT_succ] at hown'; obtain ⟨g', cap', rfl⟩ := ownsRow_succ hown'; obtain ⟨hv1, q1, q2, q3, q4, q5⟩ := append_step hb (by omega) hu (by decide) hrow hg hown' hgrow hwh; have hc1 := hv1.cell; have hf1 := hv1.frozen)
    exact ⟨q1, q2, _, q3, q4, q5⟩
  case done =>
    rintro D W hD ⟨hb, u, hu, hrow, hg⟩ hK
    have hc0 : W.cell? ⟨w.heap.size, 0, none⟩ = some u := by rw [Lib.cell_of_heap hu]; rfl
    gi_wp2
    refine ⟨by simp, .inl ⟨_, _, rfl, run_takeDeferred hK, ?_⟩⟩
    refine ⟨_, results_tmp rfl _ _ _, u, rfl, ?_, below_end hT1 hb (fun k h => by omega) _⟩
    exact ownsRow_turns (ownsRow_base hrow (by omega)) (Turns.putObj (X := fun k => k = D) W rfl _) hg
  case stop =>
    rintro D c' i W _ _ h _
    exact h.elim
end Go.Proofs.Ytkhnfmdhdfpdhaa
