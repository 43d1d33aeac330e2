/-
  What is proved here: an append of a text to a row of texts leaves no cell of the row's block, to the last of its capacity, that is neither empty nor one of the row's (for StyleScript).
  What is proved here: what slices.AppendSeq and slices.Collect answer of a map's names in this program, with what lies behind the list's length (for StyleScript).
-/
import Derived.Test.YtifkelpgpdgenaaRow
import Derived.OwnWalkIn
import Derived.RangeFuncFrom
import Derived.Test.YtifkelpgpdgenaaIter
import Derived.Shelf.SlIter.Stops
import Derived.RangeFuncBox
namespace Go.Proofs.Ytifkelpgpdgenaa
open Go.RowKit Go.Shelf

/-- Each cell of a row's block, to its capacity, is the empty text or one of these. -/
def Fill (W : World) (v : Value) (xs : List Value) : Prop :=
  ∀ g n cap cur, v = .slice (some ⟨g, 0, none⟩) n cap → W.heap[g]? = some (.cells cur 9 (0, 0)) → ∀ u ∈ cur.toList, u = .string ⟨#[]⟩ ∨ u ∈ xs

theorem zero_fill {n : Nat} {u : Value} (hu : u ∈ (Builtin.zeroCells (Value.string ⟨#[]⟩).cells n).toList) : u = .string ⟨#[]⟩ := by
  simp only [Builtin.zeroCells, Value.cells, Array.toList_map, List.mem_map] at hu
  obtain ⟨i, _, rfl⟩ := hu
  simp [Nat.mod_one]

theorem run_append_fill {P : Program} (w : World) (base : Nat) (t ty : TypeId) (i : TypeInfo) (ht : P.underlying t = some (.slice 9)) (hi : P.info? 9 = some i) (hz : i.zero = some (.string ⟨#[]⟩)) (hsize : i.size = 1) (hby : i.bytes = 16)
    (v : Value) (n : Nat) (xs : List Value) (hown : w.ownsRow base 9 1 v n xs) (hfill : Fill w v xs) (a : Addr) (c : Nat) (u : Value) (hu : w.cell? a = some u) (h1 : u.oneCell' = true)
    (h63 : n + 1 ≤ maxLen) (hbytes : (n + 1) * 16 ≤ 140737488355328) (hbase : base ≤ w.heap.size) :
    ∃ v' w', (Builtin.append_ #[t, t] ty #[v, .slice (some a) 1 c]).run P w = .ok v' w' ∧ w'.ownsRow base 9 1 v' (n + 1) (xs ++ [u]) ∧ w.grownBy w' v.ownBlock ∧ Fill w' v' (xs ++ [u]) := by
  have hc : ∀ j x, [u][j]? = some x → w.cell? (a.add j) = some x := fun j x hx => by
    match j with
    | 0 => cases hx; rw [show a.add 0 = a from if_pos rfl]; exact hu
    | j + 1 => simp at hx
  have h1' : ∀ x ∈ [u], x.oneCell' = true := fun x hx => by rw [List.mem_singleton.1 hx]; exact h1
  obtain ⟨v', w', hrun, r1, r2, _⟩ := run_append_own (P := P) w base t ty 9 i (.string ⟨#[]⟩) 1 16 ht hi hz hsize hby rfl (by decide) v n xs hown a 1 c [u] rfl hc h1' h63 hbytes hbase
  refine ⟨v', w', hrun, r1, r2, ?_⟩
  have hsmall : n + 1 ≤ 9223372036854775807 := by simp only [maxLen] at h63; omega
  have hfresh : ∀ (cs : Array Value) (m k : Nat), v' = .slice (some ⟨w.heap.size, 0, none⟩) m k → w' = w.drew.alloc (.cells cs 9) → (∀ x ∈ cs.toList, x = .string ⟨#[]⟩ ∨ x ∈ xs ++ [u]) → Fill w' v' (xs ++ [u]) := by
    intro cs m k hv hw hx g n' cap' cur e hg
    rw [hv] at e
    cases e
    rw [hw] at hg
    have := World.alloc_heap_new w.drew (.cells cs 9)
    rw [show w.drew.heap.size = w.heap.size from rfl] at this
    rw [this] at hg
    cases hg
    exact hx
  rcases hown.2 with ⟨rfl, rfl⟩ | ⟨g, cap, cur, rfl, hbg, hg, hnc, hcm, hcs, htake⟩
  · have hx : xs = [] := List.eq_nil_of_length_eq_zero (by simpa using hown.1)
    subst hx
    have hr := run_append_nil (P := P) w t ty 9 i (.string ⟨#[]⟩) ht hi hz a 1 c [u] (by rw [hsize]; rfl) hc (by omega) (by omega) (by rw [hby]; omega)
    rw [hrun] at hr
    injection hr with e1 e2
    refine hfresh _ _ _ e1 e2 fun x hx => ?_
    rw [Array.toList_append, List.mem_append] at hx
    rcases hx with hx | hx
    · exact .inr (by simpa using hx)
    · exact .inl (zero_fill hx)
  · by_cases hroom : n + 1 ≤ cap
    · have hfit : n * i.size + [u].length ≤ cur.size := by rw [hsize, hcs]; simp; omega
      have hr := run_append_room (P := P) w t ty 9 i ht hi g n cap cur hg a 1 c [u] (by rw [hsize]; rfl) hc h1' hroom hfit
      rw [hrun] at hr
      injection hr with e1 e2
      intro g' n' cap' cur' e hg'
      rw [e1] at e
      cases e
      rw [e2, setRow_heap w g cur _ 9 _ hg] at hg'
      cases hg'
      intro x hx
      simp only [List.mem_append] at hx
      rcases hx with (hx | hx) | hx
      · exact (hfill g n cap cur rfl hg x (List.mem_of_mem_take hx)).imp id (fun h => List.mem_append_left _ h)
      · exact .inr (List.mem_append_right _ hx)
      · exact (hfill g n cap cur rfl hg x (List.mem_of_mem_drop hx)).imp id (fun h => List.mem_append_left _ h)
    · have holds : ∀ j u, xs[j]? = some u → w.cell? ((⟨g, 0, none⟩ : Addr).add j) = some u := hown.cells (g := g) rfl
      have hr := run_append_grow (P := P) w t ty 9 i (.string ⟨#[]⟩) ht hi hz ⟨g, 0, none⟩ n cap xs (by rw [hsize]; exact hown.1) holds a 1 c [u] (by rw [hsize]; rfl) hc (by omega) (by omega) (by rw [hby]; exact growslice_fits (by omega) hbytes)
      rw [hrun] at hr
      injection hr with e1 e2
      refine hfresh _ _ _ e1 e2 fun x hx => ?_
      rw [Array.toList_append, List.mem_append] at hx
      rcases hx with hx | hx
      · exact .inr (by simpa using hx)
      · exact .inl (zero_fill hx)

theorem wpListIn_append_fill {F : Fence} {k : Nat} {P : Program} (w : World) {ops : Array Oper} {rest : List Oper} {o : Oper} {a : Act} {Q : Exit → Act → World → Prop}
    (hg : o.guard = none) (s x : Operand) (t : TypeId) (hop : o.op = Op.call { callee := Callee.builtin Builtin.append, args := #[s, x], argTypes := #[t, t] })
    (base : Nat) (i : TypeInfo) (ht : P.underlying t = some (.slice 9)) (hi : P.info? 9 = some i) (hz : i.zero = some (.string ⟨#[]⟩)) (hsize : i.size = 1) (hby : i.bytes = 16)
    (v : Value) (n : Nat) (xs : List Value) (hs : a.eval s = v) (hown : w.ownsRow base 9 1 v n xs) (hfill : Fill w v xs) (ad : Addr) (c : Nat) (u : Value) (hx : a.eval x = .slice (some ad) 1 c) (hu : w.cell? ad = some u) (h1 : u.oneCell' = true)
    (h63 : n + 1 ≤ maxLen) (hbytes : (n + 1) * 16 ≤ 140737488355328) (hbase : base ≤ w.heap.size)
    (hK : ∀ v' w', w'.ownsRow base 9 1 v' (n + 1) (xs ++ [u]) → w.grownBy w' v.ownBlock → Fill w' v' (xs ++ [u]) → wpListIn F k P ops Q rest (a.put o.dst v') w') :
    wpListIn F k P ops Q (o :: rest) a w := by
  refine wpListIn_plain hg fun K hK' => ?_
  obtain ⟨v', w', hrun, r1, r2, r3⟩ := run_append_fill (P := P) w base t o.type i ht hi hz hsize hby v n xs hown hfill ad c u hu h1 h63 hbytes hbase
  unfold Oper.wpIn
  refine ⟨?_, ?_⟩
  · simp [Oper.about, hop, resolve, Target.leads, Sem.run_pure]
  · rw [Oper.semAt_plain F _ _ (by rw [hop]; intro c hc'; cases hc')]
    simp [execOp, hop, resolve, invoke, builtin, hs, hx, hrun, Result.andThen]
    exact hK' _ _ (hK v' w' r1 r2 r3)
end Go.Proofs.Ytifkelpgpdgenaa

namespace Go.Proofs.Ytifkelpgpdgenaa
open Go.RowKit Go.Shelf Go.Maps Go.Sort
theorem wide_fn (f : FuncId) : Fence.wide.fn f = True := rfl
theorem wide_depth : Fence.wide.depth = none := rfl
attribute [local go_sem] Oper.semAt_some wide_fn wide_depth
theorem row_some {W : World} {base : Nat} {v : Value} {n : Nat} {xs : List Value} (h : W.ownsRow base 9 1 v (n + 1) xs) : ∃ g cap, v = .slice (some ⟨g, 0, none⟩) (n + 1) cap := by
  rcases h.2 with ⟨_, h0⟩ | ⟨g, cap, cur, e, _⟩
  · exact absurd h0 (by omega)
  · exact ⟨g, cap, e⟩

theorem Fill.same {W W' : World} {v : Value} {xs : List Value} (h : Fill W v xs) (hs : ∀ g, v.ownBlock = some g → W'.heap[g]? = W.heap[g]?) : Fill W' v xs := fun g n cap cur e hg => by
  subst e
  rw [hs g rfl] at hg
  exact h g n cap cur rfl hg
theorem row_cells {W : World} {base : Nat} {v : Value} {n : Nat} {xs : List Value} (h : W.ownsRow base 9 1 v n xs) {g : Nat} (hg : v.ownBlock = some g) : ∃ cur, W.heap[g]? = some (.cells cur 9 (0, 0)) := by
  rcases h.2 with ⟨rfl, _⟩ | ⟨g', cap, cur, rfl, _, hb, _⟩
  · cases hg
  · cases hg; exact ⟨cur, hb⟩
theorem info9s : (Try.prog.info? 9).map (fun i => (i.zero, i.size, i.bytes)) = some (some (.string ⟨#[]⟩), 1, 16) := by kernel_rfl

/-- What is so between two rounds: the box holds the row of what has come. -/
def Come (w : World) (B : Nat) (ss : List (List UInt8)) (W : World) : Prop :=
  (∃ v, W.heap[B]? = some (.cells #[v] 65 (0, 0)) ∧ W.ownsRow w.heap.size 9 1 v ss.length (ss.map encStr) ∧ Fill W v (ss.map encStr)) ∧ Below w.heap.size w W

theorem Come.own {w : World} {B N : Nat} (hN : w.heap.size ≤ N) : OwnFrom N (Come w B) := fun ss W W' row h hg hr => by
  obtain ⟨⟨v, hv, hrow, hf⟩, hb⟩ := h
  have hr' : ∀ r, row = some r → ∃ o : Obj, W.heap[r]? = some o ∧ o.isCells = false := fun r e => (hr r e).2
  have hk : ∀ g, v.ownBlock = some g → W'.heap[g]? = W.heap[g]? := fun g e => by
    obtain ⟨cur, hc⟩ := row_cells hrow e
    exact grownBy_keeps_cells hg hr' hc rfl
  refine ⟨⟨v, (grownBy_keeps_cells hg hr' hv rfl).trans hv, hrow.kept hg ?_, hf.same hk⟩, hb.grown hg hb.size (fun k e => Nat.le_trans hN (hr k e).1)⟩
  rcases e : v.ownBlock with _ | g
  · exact .inl rfl
  · refine .inr fun e' => ?_
    obtain ⟨cur, hc⟩ := row_cells hrow e
    obtain ⟨o, ho, hno⟩ := hr' g e'.symm
    rw [hc] at ho
    cases ho
    cases hno

theorem box_cell {W : World} {B : Nat} {v : Value} {t : TypeId} (h : W.heap[B]? = some (.cells #[v] t (0, 0))) : W.cell? ⟨B, 0, none⟩ = some v ∧ W.frozen? ⟨B, 0, none⟩ = false := ⟨by rw [Lib.cell_of_heap h]; rfl, Lib.frozen_of_heap h 0⟩

theorem setCell_box {W : World} {B : Nat} {v : Value} {t : TypeId} (u : Value) (h : W.heap[B]? = some (.cells #[v] t (0, 0))) : (W.setCell ⟨B, 0, none⟩ u).heap[B]? = some (.cells #[u] t (0, 0)) := heap_setCell_same W B 0 #[v] t u h

set_option maxRecDepth 100000 in
set_option maxHeartbeats 2000000 in
theorem appendSeq_fill {H : Type} (Bm b nn : Nat) (D0 : DataW H) (R : Value → Option (DataW H × List MemPlace)) (w : World) (hBm : Bm < w.heap.size) (hm : w.cell? ⟨Bm, 0, none⟩ = some (.map (some b))) (hown : w.ownsMap Try.prog 9 R b nn D0) (hmax : Maps.size D0 ≤ maxLen) (hbytes : Maps.size D0 * 16 ≤ 140737488355328) :
    Calls Try.prog 64 #[.slice none 0 0, .func (.func 62) #[] #[.pointer (some ⟨Bm, 0, none⟩)]] w fun e w' => ∃ (v : Value) (ss : List (List UInt8)), e = .returned v ∧ ss.Perm (strKeys D0) ∧ w'.ownsRow w.heap.size 9 1 v ss.length (ss.map encStr) ∧ Fill w' v (ss.map encStr) ∧ Below w.heap.size w w' := by
  obtain ⟨i0, hi, hz0, hz1, hz2⟩ := info_parts info9s
  refine (callsIn_wide (n := 5)).1 ?_
  refine callsIn_of_wp_marks Try.func64 rfl trivial ?_ rfl
  simp only [Try.ntmps64, List.size_toArray, List.length_cons, List.length_nil, Nat.reduceAdd, Nat.reduceSub, Array.replicate_succ, Array.replicate_zero, List.push_toArray, List.append_toArray, List.nil_append, List.cons_append]
  gi_wp2
  obtain ⟨W0, hW0⟩ : ∃ W0, w.alloc (.cells #[.slice none 0 0] 65) = W0 := ⟨_, rfl⟩
  have hs0 : W0.heap.size = w.heap.size + 1 := by rw [← hW0]; simp
  have hv0 : W0.heap[w.heap.size]? = some (.cells #[.slice none 0 0] 65 (0, 0)) := by rw [← hW0]; exact World.alloc_heap_new w _
  have hb0 : Below w.heap.size w W0 := by rw [← hW0]; exact (Below.refl _ w).alloc (Nat.le_refl _) _
  have hown0 : W0.ownsMap Try.prog 9 R b nn D0 := by
    have hbl := hown.lt
    obtain ⟨es, clock, hb, Ft, hs, hD⟩ := hown
    exact ⟨es, clock, (hb0.block b hbl).trans hb, Ft, hs, hD⟩
  rw [hW0]
  refine wpIn_rangeFunc_ownF rfl (by omega) (gf := 62) (lb := #[.pointer (some ⟨Bm, 0, none⟩)]) rfl trivial (enters_of Try.func62 (by kernel_rfl) rfl)
    (AnyZ.keys_stops (ρ := Try.keys52_ren) { Try.keys52 with } Fence.wide _ trivial rfl (by omega) Bm b nn D0 W0 (by omega) ((hb0.cell (p := ⟨Bm, 0, none⟩) hBm).trans hm) hown0) walksK_t walksK_b (Below.refl _ _) (fun _ => rfl)
    (Come w w.heap.size) (fun _ _ _ => False) (Come.own (by omega)) (fun _ _ _ _ _ h => h.elim)
    ⟨⟨_, hv0, World.ownsRow_nil _ _ _ _, fun g n cap cur e => by cases e⟩, hb0⟩
    (fun x => { tmps := #[.slice none 0 0, .func (.func 62) #[] #[.pointer (some ⟨Bm, 0, none⟩)], .pointer (some ⟨w.heap.size, 0, none⟩), undef, .slice none 0 0, encStr x, .func (.func 62) #[] #[.pointer (some ⟨Bm, 0, none⟩)], encStr x, undef, undef, undef, undef, undef], defers := [] }) ?assign ?body ?done ?stop
  case assign =>
    intro l x W K hK
    gi_wp2
    exact hK
  case body =>
    rintro l pre x W ⟨⟨v, hv, hrow, hf⟩, hb⟩ hlen
    obtain ⟨hc, hfz⟩ := box_cell hv
    have hbs := hb.size
    have hBl : w.heap.size < W.heap.size := (Array.getElem?_eq_some_iff.1 hv).1
    have hfa : Fill (W.alloc (.cells #[encStr x] 9)) v (pre.map encStr) := hf.same fun g e => by
      obtain ⟨cur, hcur⟩ := row_cells hrow e
      exact Below.heap_alloc _ _ _ (Array.getElem?_eq_some_iff.1 hcur).1
    have hnb : some w.heap.size ≠ v.ownBlock := fun e => by
      obtain ⟨cur, hcur⟩ := row_cells hrow e.symm
      rw [hv] at hcur
      cases hcur
    gi_wp2_with (gi_at_builtin; refine wpListIn_append_fill _ rfl _ _ 65 rfl w.heap.size i0 Try.underlying65 hi hz0 hz1 hz2 v _ _ rfl (hrow.alloc _) hfa ⟨W.heap.size, 0, none⟩ 1 (encStr x) rfl (box_cell (World.alloc_heap_new W _)).1 rfl (by omega) (by omega) (by simp; omega) ?_; intro v' w3 hown' hg3 hf3; have hv3 : w3.heap[w.heap.size]? = some (.cells #[v] 65 (0, 0)) := (hg3.block _ (by simp; omega) hnb).trans ((Below.heap_alloc _ _ _ hBl).trans hv); obtain ⟨hc3, hfz3⟩ := box_cell hv3; obtain ⟨g', cap', rfl⟩ := row_some hown')
    have hk3 : KeepsOthers W w3 := (KeepsOthers.alloc W _).trans (KeepsOthers.of_grownBy hg3 fun j o e ho => by
      obtain ⟨cur, hcur⟩ := row_cells (hrow.alloc (.cells #[encStr x] 9)) e
      rw [ho] at hcur
      cases hcur
      rfl)
    have hko := hk3.trans (KeepsOthers.setCell w3 ⟨w.heap.size, 0, none⟩ (.slice (some ⟨g', 0, none⟩) (pre.length + 1) cap'))
    have hb3 : Below w.heap.size w w3 := (hb.alloc hbs _).grown hg3 (by simp; omega) (fun k e => (hrow.lt k e).1)
    have hgb : g' ≠ w.heap.size := fun e => by
      obtain ⟨cur, hcur⟩ := row_cells hown' (g := g') rfl
      rw [e, hv3] at hcur
      cases hcur
    have hrow4 := hown'.kept (grownBy_setCell' w3 w.heap.size (.slice (some ⟨g', 0, none⟩) (pre.length + 1) cap')) (.inr fun e => hgb (by simpa [Value.ownBlock] using e))
    have hf4 : Fill (w3.setCell ⟨w.heap.size, 0, none⟩ (.slice (some ⟨g', 0, none⟩) (pre.length + 1) cap')) (.slice (some ⟨g', 0, none⟩) (pre.length + 1) cap') (pre.map encStr ++ [encStr x]) := hf3.same fun g e => by
      cases e
      exact Below.heap_setCell _ _ _ _ hgb
    refine ⟨hko, hko.walks, ⟨_, setCell_box _ hv3, ?_, ?_⟩, hb3.setCell (p := ⟨w.heap.size, 0, none⟩) (Nat.le_refl _) _⟩
    · rw [List.map_append, List.length_append]; exact hrow4
    · rw [List.map_append]; exact hf4
  case done =>
    rintro D xs W hD ⟨hS, _⟩ ⟨⟨v, hv, hrow, hf⟩, hb⟩ hK
    obtain ⟨hc, hfz⟩ := box_cell hv
    gi_wp2
    refine ⟨by simp, .inl ⟨_, _, rfl, run_takeDeferred hK, ?_⟩⟩
    have hgr := grownBy_putObj' W D (.deferred none)
    have hnc : ∀ g, v.ownBlock = some g → g ≠ D := fun g e e' => by
      obtain ⟨cur, hcur⟩ := row_cells hrow e
      rw [e', hK] at hcur
      cases hcur
    refine ⟨_, results_tmp rfl _ _ _, v, xs, rfl, hS, hrow.kept hgr ?_, hf.same fun g e => World.putObj_heap_other (hnc g e), hb.grown hgr hb.size (fun k e => by cases e; omega)⟩
    rcases e : v.ownBlock with _ | g
    · exact .inl rfl
    · exact .inr fun e' => by cases e'; exact hnc D e rfl
  case stop =>
    rintro D c pre W _ _ h _
    exact h.elim
end Go.Proofs.Ytifkelpgpdgenaa
