/-
  What is proved here: rows of numbers that grow; the columns' least and greatest widths, for every table.
  What is proved here: what Widths answers, for every table and width.
-/
import Derived.Test.YtkhnfmdhdfpdhaaE17
import Derived.OwnWalk
namespace Go.Proofs.Ytkhnfmdhdfpdhaa
open Go.RowKit Go.Shelf
attribute [local go_sem] Oper.semAt_some wide_fn wide_depth

/-- A number as the machine has it. -/
def IsI (u : Value) : Prop := ∃ x : Int, u = .int .i64 x ∧ -9223372036854775808 ≤ x ∧ x ≤ 9223372036854775807
/-- Each cell of a row's block, to its capacity, is a number. -/
def AllI (W : World) (v : Value) : Prop := ∀ g n cap cur, v = .slice (some ⟨g, 0, none⟩) n cap → W.heap[g]? = some (.cells cur 3 (0, 0)) → ∀ u ∈ cur.toList, IsI u
theorem AllI.keep {W W' : World} {v : Value} (h : AllI W v) (hs : ∀ g, v.ownBlock = some g → W'.heap[g]? = W.heap[g]?) : AllI W' v := fun g n cap cur e hg => by
  rw [hs g (by rw [e]; rfl)] at hg
  exact h g n cap cur e hg
theorem zero_isI {n : Nat} {u : Value} (hu : u ∈ (Builtin.zeroCells (Value.int .i64 0).cells n).toList) : IsI u := by
  simp only [Builtin.zeroCells, Value.cells, Array.toList_map, List.mem_map] at hu
  obtain ⟨i, _, rfl⟩ := hu
  exact ⟨0, by simp [Nat.mod_one], by omega, by omega⟩
theorem run_append_ints {P : Program} (w : World) (base : Nat) (t ty : TypeId) (i : TypeInfo) (ht : P.underlying t = some (.slice 3)) (hi : P.info? 3 = some i) (hz : i.zero = some (.int .i64 0)) (hsize : i.size = 1) (hby : i.bytes = 8)
    (v : Value) (n : Nat) (xs : List Value) (hown : w.ownsRow base 3 1 v n xs) (hfill : AllI w v) (a : Addr) (c : Nat) (u : Value) (hu : w.cell? a = some u) (hI : IsI u)
    (h63 : n + 1 ≤ maxLen) (hbytes : (n + 1) * 8 ≤ 140737488355328) (hbase : base ≤ w.heap.size) :
    ∃ v' w', (Builtin.append_ #[t, t] ty #[v, .slice (some a) 1 c]).run P w = .ok v' w' ∧ w'.ownsRow base 3 1 v' (n + 1) (xs ++ [u]) ∧ w.grownBy w' v.ownBlock ∧ (v'.ownBlock = v.ownBlock ∨ ∀ g, v'.ownBlock = some g → w.heap.size ≤ g) ∧ AllI w' v' := by
  have h1 : u.oneCell' = true := by obtain ⟨x, rfl, _⟩ := hI; rfl
  have hc : ∀ j x, [u][j]? = some x → w.cell? (a.add j) = some x := fun j x hx => by
    match j with
    | 0 => cases hx; rw [show a.add 0 = a from if_pos rfl]; exact hu
    | j + 1 => simp at hx
  have h1' : ∀ x ∈ [u], x.oneCell' = true := fun x hx => by rw [List.mem_singleton.1 hx]; exact h1
  obtain ⟨v', w', hrun, r1, r2, r3⟩ := run_append_where (P := P) w base t ty 3 i (.int .i64 0) 1 8 ht hi hz hsize hby rfl (by decide) v n xs hown a 1 c [u] rfl hc h1' h63 hbytes hbase
  refine ⟨v', w', hrun, r1, r2, r3, ?_⟩
  have hsmall : n + 1 ≤ 9223372036854775807 := by simp only [maxLen] at h63; omega
  have hxs : ∀ g cap cur, v = .slice (some ⟨g, 0, none⟩) n cap → w.heap[g]? = some (.cells cur 3 (0, 0)) → cur.toList.take (n * 1) = xs → ∀ y ∈ xs, IsI y := fun g cap cur e hg ht y hy => by
    rw [← ht] at hy
    exact hfill g n cap cur e hg y (List.mem_of_mem_take hy)
  have hfresh : ∀ (cs : Array Value) (m k : Nat), v' = .slice (some ⟨w.heap.size, 0, none⟩) m k → w' = w.drew.alloc (.cells cs 3) → (∀ x ∈ cs.toList, IsI x) → AllI w' v' := by
    intro cs m k hv hw hx g n' cap' cur e hg
    rw [hv] at e
    cases e
    rw [hw] at hg
    have := World.alloc_heap_new w.drew (.cells cs 3)
    rw [show w.drew.heap.size = w.heap.size from rfl] at this
    rw [this] at hg
    cases hg
    exact hx
  rcases hown.2 with ⟨rfl, rfl⟩ | ⟨g, cap, cur, rfl, hbg, hg, hnc, hcm, hcs, htake⟩
  · have hx : xs = [] := List.eq_nil_of_length_eq_zero (by simpa using hown.1)
    subst hx
    have hr := run_append_nil (P := P) w t ty 3 i (.int .i64 0) ht hi hz a 1 c [u] (by rw [hsize]; rfl) hc (by omega) (by omega) (by rw [hby]; omega)
    rw [hrun] at hr
    injection hr with e1 e2
    refine hfresh _ _ _ e1 e2 fun x hx => ?_
    rw [Array.toList_append, List.mem_append] at hx
    rcases hx with hx | hx
    · obtain rfl : x = u := by simpa using hx
      exact hI
    · exact zero_isI hx
  · have hxI := hxs g cap cur rfl hg htake
    by_cases hroom : n + 1 ≤ cap
    · have hfit : n * i.size + [u].length ≤ cur.size := by rw [hsize, hcs]; simp; omega
      have hr := run_append_room (P := P) w t ty 3 i ht hi g n cap cur hg a 1 c [u] (by rw [hsize]; rfl) hc h1' hroom hfit
      rw [hrun] at hr
      injection hr with e1 e2
      intro g' n' cap' cur' e hg'
      rw [e1] at e
      cases e
      rw [e2, setRow_heap w g cur _ 3 _ hg] at hg'
      cases hg'
      intro x hx
      simp only [List.mem_append] at hx
      rcases hx with (hx | hx) | hx
      · exact hfill g n cap cur rfl hg x (List.mem_of_mem_take hx)
      · obtain rfl : x = u := by simpa using hx
        exact hI
      · exact hfill g n cap cur rfl hg x (List.mem_of_mem_drop hx)
    · have holds : ∀ j u, xs[j]? = some u → w.cell? ((⟨g, 0, none⟩ : Addr).add j) = some u := hown.cells (g := g) rfl
      have hr := run_append_grow (P := P) w t ty 3 i (.int .i64 0) ht hi hz ⟨g, 0, none⟩ n cap xs (by rw [hsize]; exact hown.1) holds a 1 c [u] (by rw [hsize]; rfl) hc (by omega) (by omega) (by rw [hby]; exact growslice_fits (by omega) hbytes)
      rw [hrun] at hr
      injection hr with e1 e2
      refine hfresh _ _ _ e1 e2 fun x hx => ?_
      rw [Array.toList_append, List.mem_append] at hx
      rcases hx with hx | hx
      · have hx : x ∈ xs ∨ x = u := by simpa using hx
        rcases hx with hx | rfl
        · exact hxI x hx
        · exact hI
      · exact zero_isI hx
theorem wpListIn_append_ints {F : Fence} {k : Nat} {P : Program} (w : World) {ops : Array Oper} {rest : List Oper} {o : Oper} {a : Act} {Q : Exit → Act → World → Prop}
    (hg : o.guard = none) (s x : Operand) (t : TypeId) (hop : o.op = Op.call { callee := Callee.builtin Builtin.append, args := #[s, x], argTypes := #[t, t] })
    (base : Nat) (i : TypeInfo) (ht : P.underlying t = some (.slice 3)) (hi : P.info? 3 = some i) (hz : i.zero = some (.int .i64 0)) (hsize : i.size = 1) (hby : i.bytes = 8)
    (v : Value) (n : Nat) (xs : List Value) (hs : a.eval s = v) (hown : w.ownsRow base 3 1 v n xs) (hfill : AllI w v) (ad : Addr) (c : Nat) (u : Value) (hx : a.eval x = .slice (some ad) 1 c) (hu : w.cell? ad = some u) (hI : IsI u)
    (h63 : n + 1 ≤ maxLen) (hbytes : (n + 1) * 8 ≤ 140737488355328) (hbase : base ≤ w.heap.size)
    (hK : ∀ v' w', w'.ownsRow base 3 1 v' (n + 1) (xs ++ [u]) → w.grownBy w' v.ownBlock → (v'.ownBlock = v.ownBlock ∨ ∀ g, v'.ownBlock = some g → w.heap.size ≤ g) → AllI w' v' → wpListIn F k P ops Q rest (a.put o.dst v') w') :
    wpListIn F k P ops Q (o :: rest) a w := by
  refine wpListIn_plain hg fun K hK' => ?_
  obtain ⟨v', w', hrun, r1, r2, r3, r4⟩ := run_append_ints (P := P) w base t o.type i ht hi hz hsize hby v n xs hown hfill ad c u hu hI h63 hbytes hbase
  unfold Oper.wpIn
  refine ⟨?_, ?_⟩
  · simp [Oper.about, hop, resolve, Target.leads, Sem.run_pure]
  · rw [Oper.semAt_plain F _ _ (by rw [hop]; intro c hc'; cases hc')]
    simp [execOp, hop, resolve, invoke, builtin, hs, hx, hrun, Result.andThen]
    exact hK' _ _ (hK v' w' r1 r2 r3 r4)
theorem steady_ints {w₁ : World} {own : Nat → Prop} {B : Nat} (hB : B < w₁.heap.size) (base : Nat) (t : TypeId) (k : Nat → Nat) (xs : Nat → List Value) :
    Steady (fun i X W => Base w₁ own X W ∧ ∃ v, W.heap[B]? = some (.cells #[v] t) ∧ (W.ownsRow base 3 1 v (k i) (xs i) ∧ AllI W v) ∧ ∀ g, v.ownBlock = some g → ¬ X g) :=
  fun _ X X' W W' hs ht hx => by
    obtain ⟨hb, v, hv, ⟨hr, hf⟩, hg⟩ := hs
    refine ⟨hb.step ht hx, v, (hb.keep ht hB).trans hv, ⟨ownsRow_turns hr ht hg, hf.keep fun g h => ht.block g (hr.lt g h).2 (hg g h)⟩, fun g h h' => ?_⟩
    have := (hr.lt g h).2
    exact (hx g h').elim (hg g h) (fun h => by omega)
theorem info3z : (Try.prog.info? 3).map (fun i => (i.zero, i.size, i.bytes)) = some (some (.int .i64 0), 1, 8) := by kernel_rfl
theorem readT_turns {Bt c : Nat} {v : Value} {l : List ByteArray} {W W' : World} {X : Nat → Prop} (h : ReadT Bt c v l W) (ht : Turns X W W') (hB : ¬ X Bt) (hv : ∀ g, v.ownBlock = some g → ¬ X g) : ReadT Bt c v l W' := by
  refine ⟨h.box.turns ht hB, ?_⟩
  obtain ⟨⟨a, cap, rfl, h2⟩, hle⟩ := h.st
  refine ⟨⟨a, cap, rfl, ?_⟩, hle⟩
  rcases h2 with h2 | ⟨b, o, rfl, hlt, hc⟩
  · exact .inl h2
  · refine .inr ⟨b, o, rfl, Nat.lt_of_lt_of_le hlt ht.size, fun i hi => ?_⟩
    rw [← hc i hi]
    unfold World.cell?
    rw [ht.block b hlt (hv b rfl)]
theorem strs_own {W : World} {v : Value} {l : List ByteArray} (h : StrsAt W v l) (hl : l ≠ []) : ∀ g, v.ownBlock = some g → g < W.heap.size := by
  obtain ⟨⟨a, cap, rfl, h2⟩, hle⟩ := h
  rcases h2 with h2 | ⟨b, o, rfl, hlt, hc⟩
  · exact absurd h2 hl
  · intro g hg; cases hg; exact hlt
/-- The columns' least (greatest) widths. -/
def leS (c : Nat) (l : List ByteArray) (k : Nat) : List Int := (List.range k).map fun i => (colI c l i).s
def leM (c : Nat) (l : List ByteArray) (k : Nat) : List Int := (List.range k).map fun i => (colI c l i).m
theorem leS_succ (c : Nat) (l : List ByteArray) (k : Nat) : ints (leS c l k) ++ [.int .i64 (colI c l k).s] = ints (leS c l (k + 1)) := by simp [leS, ints, List.range_succ]
theorem leM_succ (c : Nat) (l : List ByteArray) (k : Nat) : ints (leM c l k) ++ [.int .i64 (colI c l k).m] = ints (leM c l (k + 1)) := by simp [leM, ints, List.range_succ]
/-- How Least and Most end. -/
def LmEnd (f : Nat → List ByteArray → Nat → List Int) (c : Int) (l : List ByteArray) (w : World) (e : Ending) (w' : World) : Prop :=
  (chkG c l ≠ 0 ∧ e = .returned (.tuple #[.slice none 0 0, .int .i64 (chkG c l)]) ∧ Below w.heap.size w w') ∨
  (chkG c l = 0 ∧ ∃ u, e = .returned (.tuple #[u, .int .i64 0]) ∧ (w'.ownsRow w.heap.size 3 1 u c.toNat (ints (f c.toNat l c.toNat)) ∧ AllI w' u) ∧ Below w.heap.size w w')

set_option maxRecDepth 100000 in
set_option maxHeartbeats 4000000 in
theorem gleast_any (c : Int) (v : Value) (l : List ByteArray) (hl : l.length ≤ 9223372036854775807) (hsz : ∀ t ∈ l, t.size ≤ 9223372036854775807) (w : World) (hS : StrsAt w v l) :
    Calls Try.prog 7 #[.agg #[.int .i64 c, v]] w (LmEnd leS c l w) := by
  have hT0 : Turns Noth w (w.alloc (.cells #[.int .i64 c, v] 24)) := Turns.alloc Noth w _
  have hB0 := (Below.refl w.heap.size w).alloc (Nat.le_refl _) (.cells #[.int .i64 c, v] 24)
  have hS0 := hS.below hB0 (Nat.le_refl _)
  have hs0 : (w.alloc (.cells #[.int .i64 c, v] 24)).heap.size = w.heap.size + 1 := World.size_alloc _ _
  have hbx : (w.alloc (.cells #[.int .i64 c, v] 24)).heap[w.heap.size]? = some (.cells #[.int .i64 c, v] 24) := World.alloc_heap_new w _
  have hck := gcheck_any c v l hl hsz _ hS0
  refine callsIn_wide (n := 0).1 ?_
  refine callsIn_of_wp_marks Try.func7 rfl trivial ?_ rfl
  simp only [Try.ntmps7, List.size_toArray, List.length_cons, List.length_nil, Nat.reduceAdd, Nat.reduceSub, Array.replicate_succ, Array.replicate_zero, List.push_toArray, List.append_toArray, List.nil_append, List.cons_append]
  by_cases hz : ¬ chkG c l = 0
  · have hne : ¬ chkG c l = 0 := hz
    have c0 : (w.alloc (.cells #[.int .i64 c, v] 24)).cell? ⟨w.heap.size, 0, none⟩ = some (.int .i64 c) := by rw [Lib.cell_of_heap hbx]; rfl
    have c1 : (w.alloc (.cells #[.int .i64 c, v] 24)).cell? ⟨w.heap.size, 1, none⟩ = some v := by rw [Lib.cell_of_heap hbx]; rfl
    have hend : Hid (∀ e w1, e = .returned (.tuple #[.slice none 0 0, .int .i64 (chkG c l)]) → Below (w.alloc (.cells #[.int .i64 c, v] 24)).heap.size (w.alloc (.cells #[.int .i64 c, v] 24)) w1 → LmEnd leS c l w e w1) := fun e w1 he hb => .inl ⟨hz, he, hB0.trans (hb.mono hB0.size)⟩
    generalize chkG c l = ee at *
    gi_wp2_with (gi_at_call 14; refine (callsIn_wide.2 hck).mono ?_; rintro e w1 ⟨rfl, b1⟩)
    exact ⟨_, results_tmp2 rfl _ _ _, hend.out _ _ rfl b1⟩
  · replace hz := Classical.not_not.1 hz
    rw [hz] at hck
    obtain ⟨n, rfl, hn1, hl1, hd1, hC1⟩ := chk_ok hz
    have hT : Tab n l := ⟨hn1, hl1, hd1, hC1⟩
    obtain ⟨n1, n2⟩ := hn1
    have c0 : (w.alloc (.cells #[.int .i64 n, v] 24)).cell? ⟨w.heap.size, 0, none⟩ = some (.int .i64 n) := by rw [Lib.cell_of_heap hbx]; rfl
    have c1 : (w.alloc (.cells #[.int .i64 n, v] 24)).cell? ⟨w.heap.size, 1, none⟩ = some v := by rw [Lib.cell_of_heap hbx]; rfl
    have hvb := strs_own hS (by rintro rfl; simp at hl1)
    have hco := columns_any n v
    gi_wp2_with (first | (gi_at_call 14; refine (callsIn_wide.2 hck).mono ?_; rintro e w1 ⟨rfl, b1⟩; have hx1 := (b1.block w.heap.size (by omega)).trans hbx; have hlt1 := (Array.getElem?_eq_some_iff.1 hx1).1; have hx2 : (w1.alloc (.cells #[.slice none 0 0] 26)).heap[w.heap.size]? = some (.cells #[.int .i64 n, v] 24) := (Below.heap_alloc _ _ _ hlt1).trans hx1; (have c2 : (w1.alloc (.cells #[.slice none 0 0] 26)).cell? ⟨w.heap.size, 0, none⟩ = some (.int .i64 n) := by rw [Lib.cell_of_heap hx2]; rfl); (have c3 : (w1.alloc (.cells #[.slice none 0 0] 26)).cell? ⟨w.heap.size, 1, none⟩ = some v := by rw [Lib.cell_of_heap hx2]; rfl)) | (gi_at_call 27; refine (callsIn_wide.2 (hco _)).mono ?_; rintro e w2 ⟨rfl, rfl⟩))
    have hs1 := b1.size
    have hrng := hC1.col n
    have hfin : Hid (∀ u e W, e = .returned (.tuple #[u, .int .i64 0]) → (W.ownsRow w.heap.size 3 1 u n (ints (leS n l n)) ∧ AllI W u) → Below w.heap.size w W → LmEnd leS n l w e W) := fun u e W he hu hb => .inr ⟨hz, u, he, hu, hb⟩
    obtain ⟨w4, hw4⟩ : ∃ w4, (w1.alloc (.cells #[.slice none 0 0] 26)).alloc (.cells #[.int .i64 n, v] 24) = w4 := ⟨_, rfl⟩
    have hs4 : w4.heap.size = w1.heap.size + 2 := by rw [← hw4]; simp
    have hT4 : Turns Noth w1 w4 := by rw [← hw4]; exact (Turns.alloc _ _ _).trans (Turns.alloc _ _ _)
    have hT04 : Turns Noth w w4 := hT0.trans ((Turns.of_below b1).trans hT4)
    have hbU : w4.heap[w1.heap.size]? = some (.cells #[.slice none 0 0] 26) := by rw [← hw4]; exact (Below.heap_alloc _ _ _ (by simp)).trans (World.alloc_heap_new w1 _)
    have hbt : TB w4 (w1.heap.size + 1) n v := by
      have := TB.new (w1.alloc (.cells #[.slice none 0 0] 26)) n v
      rw [World.size_alloc] at this
      rw [← hw4]; exact this
    have hR4 : ReadT (w1.heap.size + 1) n v l w4 := ⟨hbt, hS.below (hT04.below (Nat.le_refl _) (fun _ h => h.elim)) (Nat.le_refl _)⟩
    obtain ⟨i0, hi, hz0, hz1, hz2⟩ := info_parts info3z
    rw [hw4]
    clear hck hco hx1 hx2 c0 c1 c2 c3 hw4 hS0 hbx hB0
    refine wp_range (gf := 43) (lb := #[.pointer (some ⟨w1.heap.size + 1, 0, none⟩)]) rfl (enters_of Try.func43 (by kernel_rfl) rfl) (columns1_gives (w1.heap.size + 1) n v l hT) (fun _ => rfl)
      (fun j X W => Base w4 (fun k => k = w1.heap.size) X W ∧ ∃ u, W.heap[w1.heap.size]? = some (.cells #[u] 26) ∧ (W.ownsRow w4.heap.size 3 1 u j (ints (leS n l j)) ∧ AllI W u) ∧ ∀ g, u.ownBlock = some g → ¬ X g)
      (fun _ _ _ _ => False)
      (fun a' j X W => (Base w4 (fun k => k = w1.heap.size) X W ∧ ∃ u, W.heap[w1.heap.size]? = some (.cells #[u] 26) ∧ (W.ownsRow w4.heap.size 3 1 u j (ints (leS n l j)) ∧ AllI W u) ∧ ∀ g, u.ownBlock = some g → ¬ X g) ∧
        ∃ B, ¬ X B ∧ W.heap[B]? = some (.cells (coL (colI n l j)).toArray 55) ∧
        a' = { tmps := #[.agg #[.int .i64 n, v], .pointer (some ⟨w.heap.size, 0, none⟩), .slice none 0 0, .int .i64 0, .int .i64 0, .pointer (some ⟨w1.heap.size, 0, none⟩), .pointer (some ⟨B, 0, none⟩), .agg #[.int .i64 n, v], .int .i64 0, .int .i64 0, .bool false, undef, .agg #[.int .i64 n, v], .func (.func 43) #[] #[.pointer (some ⟨w1.heap.size + 1, 0, none⟩)], coV (colI n l j), undef, undef, undef, undef, undef, undef], defers := [] })
      (steady_ints (by omega) _ _ (fun j => j) (fun j => ints (leS n l j))) (fun _ => steady_never) (fun a' => (steady_ints (by omega) _ _ (fun j => j) (fun j => ints (leS n l j))).and (steady_round a' _ _)) ?hR ⟨Base.start _ _, _, hbU, ⟨World.ownsRow_nil _ _ _ _, fun g n cap cur e => by cases e⟩, fun g hg => by cases hg⟩ ?assign ?body ?done ?stop
    case hR =>
      rintro i X W ⟨hb, _⟩
      exact readT_turns hR4 hb.turns (by omega) (fun g hg => by have := hvb g hg; omega)
    case assign =>
      rintro lo j X W K hj ⟨hb, u, hu, ⟨hr, hai⟩, hg⟩ hK
      unfold encT coV
      gi_wp2
      exact hK _ _ (Keeps.alloc _ _ _) ⟨⟨hb.alloc _, u, (Below.heap_alloc _ _ _ (by have := hb.turns.size; omega)).trans hu, ⟨hr.alloc _, hai.keep fun g hg => Below.heap_alloc _ _ _ (hr.lt g hg).2⟩, hg⟩, W.heap.size, hb.fresh, World.alloc_heap_new _ _, rfl⟩
    case body =>
      rintro lo j X a' W hj ⟨⟨hb, u, hu, ⟨hrow, hai⟩, hg⟩, B, hB, hr, rfl⟩
      have hc0 : W.cell? ⟨w1.heap.size, 0, none⟩ = some u := by rw [Lib.cell_of_heap hu]; rfl
      have hr0 : W.cell? ⟨B, 0, none⟩ = some (.int .i64 (colI n l j).s) := by rw [Lib.cell_of_heap hr]; rfl
      have hr1 : W.cell? ⟨B, 1, none⟩ = some (.int .i64 (colI n l j).m) := by rw [Lib.cell_of_heap hr]; rfl
      have hbs := hb.turns.size
      have hcr := hrng j
      gi_wp2_with (gi_at_builtin; refine wpListIn_append_ints _ rfl _ _ 26 rfl w4.heap.size i0 Try.underlying26 hi hz0 hz1 hz2 u _ _ rfl (hrow.alloc _) (hai.keep fun g hg => Below.heap_alloc _ _ _ (hrow.lt g hg).2) ⟨W.heap.size, 0, none⟩ 1 (.int .i64 (colI n l j).s) rfl (by rw [Lib.cell_of_heap (World.alloc_heap_new _ _)]; rfl) ⟨_, rfl, by omega, by omega⟩ (by unfold maxLen; omega) (by omega) (by simp; omega) ?_; intro v' w2 hown' hgrow hwh hall'; rw [leS_succ] at hown'; obtain ⟨g', cap', rfl⟩ := ownsRow_succ hown'; obtain ⟨hv1, q1, q2, q3, q4, q5⟩ := append_step hb (by omega) hu (by decide) hrow hg hown' hgrow hwh; have hc1 := hv1.cell; have hf1 := hv1.frozen)
      exact ⟨q1, q2, _, q3, ⟨q4, hall'.keep fun g hg => Below.heap_setCell _ _ _ g (fun e => by have h1 := (q4.lt g hg).1; have h2 : g = w1.heap.size := e; omega)⟩, q5⟩
    case done =>
      rintro D W hD ⟨hb, u, hu, ⟨hrow, hai⟩, hg⟩ hK
      have hc0 : W.cell? ⟨w1.heap.size, 0, none⟩ = some u := by rw [Lib.cell_of_heap hu]; rfl
      gi_wp2
      refine ⟨by simp, .inl ⟨_, _, rfl, run_takeDeferred hK, ?_⟩⟩
      refine ⟨_, results_tmp2 rfl _ _ _, hfin.out u _ _ rfl ⟨ownsRow_turns (ownsRow_base hrow (by omega)) (Turns.putObj (X := fun k => k = D) W rfl _) hg, hai.keep fun g hgg => World.putObj_heap_other (fun e => hg g hgg e)⟩ (below_end hT04 hb (fun k h => by omega) _)⟩
    case stop =>
      rintro D c' i W _ _ h _
      exact h.elim

set_option maxRecDepth 100000 in
set_option maxHeartbeats 4000000 in
theorem gmost_any (c : Int) (v : Value) (l : List ByteArray) (hl : l.length ≤ 9223372036854775807) (hsz : ∀ t ∈ l, t.size ≤ 9223372036854775807) (w : World) (hS : StrsAt w v l) :
    Calls Try.prog 9 #[.agg #[.int .i64 c, v]] w (LmEnd leM c l w) := by
  have hT0 : Turns Noth w (w.alloc (.cells #[.int .i64 c, v] 24)) := Turns.alloc Noth w _
  have hB0 := (Below.refl w.heap.size w).alloc (Nat.le_refl _) (.cells #[.int .i64 c, v] 24)
  have hS0 := hS.below hB0 (Nat.le_refl _)
  have hs0 : (w.alloc (.cells #[.int .i64 c, v] 24)).heap.size = w.heap.size + 1 := World.size_alloc _ _
  have hbx : (w.alloc (.cells #[.int .i64 c, v] 24)).heap[w.heap.size]? = some (.cells #[.int .i64 c, v] 24) := World.alloc_heap_new w _
  have hck := gcheck_any c v l hl hsz _ hS0
  refine callsIn_wide (n := 0).1 ?_
  refine callsIn_of_wp_marks Try.func9 rfl trivial ?_ rfl
  simp only [Try.ntmps9, List.size_toArray, List.length_cons, List.length_nil, Nat.reduceAdd, Nat.reduceSub, Array.replicate_succ, Array.replicate_zero, List.push_toArray, List.append_toArray, List.nil_append, List.cons_append]
  by_cases hz : ¬ chkG c l = 0
  · have hne : ¬ chkG c l = 0 := hz
    have c0 : (w.alloc (.cells #[.int .i64 c, v] 24)).cell? ⟨w.heap.size, 0, none⟩ = some (.int .i64 c) := by rw [Lib.cell_of_heap hbx]; rfl
    have c1 : (w.alloc (.cells #[.int .i64 c, v] 24)).cell? ⟨w.heap.size, 1, none⟩ = some v := by rw [Lib.cell_of_heap hbx]; rfl
    have hend : Hid (∀ e w1, e = .returned (.tuple #[.slice none 0 0, .int .i64 (chkG c l)]) → Below (w.alloc (.cells #[.int .i64 c, v] 24)).heap.size (w.alloc (.cells #[.int .i64 c, v] 24)) w1 → LmEnd leM c l w e w1) := fun e w1 he hb => .inl ⟨hz, he, hB0.trans (hb.mono hB0.size)⟩
    generalize chkG c l = ee at *
    gi_wp2_with (gi_at_call 14; refine (callsIn_wide.2 hck).mono ?_; rintro e w1 ⟨rfl, b1⟩)
    exact ⟨_, results_tmp2 rfl _ _ _, hend.out _ _ rfl b1⟩
  · replace hz := Classical.not_not.1 hz
    rw [hz] at hck
    obtain ⟨n, rfl, hn1, hl1, hd1, hC1⟩ := chk_ok hz
    have hT : Tab n l := ⟨hn1, hl1, hd1, hC1⟩
    obtain ⟨n1, n2⟩ := hn1
    have c0 : (w.alloc (.cells #[.int .i64 n, v] 24)).cell? ⟨w.heap.size, 0, none⟩ = some (.int .i64 n) := by rw [Lib.cell_of_heap hbx]; rfl
    have c1 : (w.alloc (.cells #[.int .i64 n, v] 24)).cell? ⟨w.heap.size, 1, none⟩ = some v := by rw [Lib.cell_of_heap hbx]; rfl
    have hvb := strs_own hS (by rintro rfl; simp at hl1)
    have hco := columns_any n v
    gi_wp2_with (first | (gi_at_call 14; refine (callsIn_wide.2 hck).mono ?_; rintro e w1 ⟨rfl, b1⟩; have hx1 := (b1.block w.heap.size (by omega)).trans hbx; have hlt1 := (Array.getElem?_eq_some_iff.1 hx1).1; have hx2 : (w1.alloc (.cells #[.slice none 0 0] 26)).heap[w.heap.size]? = some (.cells #[.int .i64 n, v] 24) := (Below.heap_alloc _ _ _ hlt1).trans hx1; (have c2 : (w1.alloc (.cells #[.slice none 0 0] 26)).cell? ⟨w.heap.size, 0, none⟩ = some (.int .i64 n) := by rw [Lib.cell_of_heap hx2]; rfl); (have c3 : (w1.alloc (.cells #[.slice none 0 0] 26)).cell? ⟨w.heap.size, 1, none⟩ = some v := by rw [Lib.cell_of_heap hx2]; rfl)) | (gi_at_call 27; refine (callsIn_wide.2 (hco _)).mono ?_; rintro e w2 ⟨rfl, rfl⟩))
    have hs1 := b1.size
    have hrng := hC1.col n
    have hfin : Hid (∀ u e W, e = .returned (.tuple #[u, .int .i64 0]) → (W.ownsRow w.heap.size 3 1 u n (ints (leM n l n)) ∧ AllI W u) → Below w.heap.size w W → LmEnd leM n l w e W) := fun u e W he hu hb => .inr ⟨hz, u, he, hu, hb⟩
    obtain ⟨w4, hw4⟩ : ∃ w4, (w1.alloc (.cells #[.slice none 0 0] 26)).alloc (.cells #[.int .i64 n, v] 24) = w4 := ⟨_, rfl⟩
    have hs4 : w4.heap.size = w1.heap.size + 2 := by rw [← hw4]; simp
    have hT4 : Turns Noth w1 w4 := by rw [← hw4]; exact (Turns.alloc _ _ _).trans (Turns.alloc _ _ _)
    have hT04 : Turns Noth w w4 := hT0.trans ((Turns.of_below b1).trans hT4)
    have hbU : w4.heap[w1.heap.size]? = some (.cells #[.slice none 0 0] 26) := by rw [← hw4]; exact (Below.heap_alloc _ _ _ (by simp)).trans (World.alloc_heap_new w1 _)
    have hbt : TB w4 (w1.heap.size + 1) n v := by
      have := TB.new (w1.alloc (.cells #[.slice none 0 0] 26)) n v
      rw [World.size_alloc] at this
      rw [← hw4]; exact this
    have hR4 : ReadT (w1.heap.size + 1) n v l w4 := ⟨hbt, hS.below (hT04.below (Nat.le_refl _) (fun _ h => h.elim)) (Nat.le_refl _)⟩
    obtain ⟨i0, hi, hz0, hz1, hz2⟩ := info_parts info3z
    rw [hw4]
    clear hck hco hx1 hx2 c0 c1 c2 c3 hw4 hS0 hbx hB0
    refine wp_range (gf := 43) (lb := #[.pointer (some ⟨w1.heap.size + 1, 0, none⟩)]) rfl (enters_of Try.func43 (by kernel_rfl) rfl) (columns1_gives (w1.heap.size + 1) n v l hT) (fun _ => rfl)
      (fun j X W => Base w4 (fun k => k = w1.heap.size) X W ∧ ∃ u, W.heap[w1.heap.size]? = some (.cells #[u] 26) ∧ (W.ownsRow w4.heap.size 3 1 u j (ints (leM n l j)) ∧ AllI W u) ∧ ∀ g, u.ownBlock = some g → ¬ X g)
      (fun _ _ _ _ => False)
      (fun a' j X W => (Base w4 (fun k => k = w1.heap.size) X W ∧ ∃ u, W.heap[w1.heap.size]? = some (.cells #[u] 26) ∧ (W.ownsRow w4.heap.size 3 1 u j (ints (leM n l j)) ∧ AllI W u) ∧ ∀ g, u.ownBlock = some g → ¬ X g) ∧
        ∃ B, ¬ X B ∧ W.heap[B]? = some (.cells (coL (colI n l j)).toArray 55) ∧
        a' = { tmps := #[.agg #[.int .i64 n, v], .pointer (some ⟨w.heap.size, 0, none⟩), .slice none 0 0, .int .i64 0, .int .i64 0, .pointer (some ⟨w1.heap.size, 0, none⟩), .pointer (some ⟨B, 0, none⟩), .agg #[.int .i64 n, v], .int .i64 0, .int .i64 0, .bool false, undef, .agg #[.int .i64 n, v], .func (.func 43) #[] #[.pointer (some ⟨w1.heap.size + 1, 0, none⟩)], coV (colI n l j), undef, undef, undef, undef, undef, undef], defers := [] })
      (steady_ints (by omega) _ _ (fun j => j) (fun j => ints (leM n l j))) (fun _ => steady_never) (fun a' => (steady_ints (by omega) _ _ (fun j => j) (fun j => ints (leM n l j))).and (steady_round a' _ _)) ?hR ⟨Base.start _ _, _, hbU, ⟨World.ownsRow_nil _ _ _ _, fun g n cap cur e => by cases e⟩, fun g hg => by cases hg⟩ ?assign ?body ?done ?stop
    case hR =>
      rintro i X W ⟨hb, _⟩
      exact readT_turns hR4 hb.turns (by omega) (fun g hg => by have := hvb g hg; omega)
    case assign =>
      rintro lo j X W K hj ⟨hb, u, hu, ⟨hr, hai⟩, hg⟩ hK
      unfold encT coV
      gi_wp2
      exact hK _ _ (Keeps.alloc _ _ _) ⟨⟨hb.alloc _, u, (Below.heap_alloc _ _ _ (by have := hb.turns.size; omega)).trans hu, ⟨hr.alloc _, hai.keep fun g hg => Below.heap_alloc _ _ _ (hr.lt g hg).2⟩, hg⟩, W.heap.size, hb.fresh, World.alloc_heap_new _ _, rfl⟩
    case body =>
      rintro lo j X a' W hj ⟨⟨hb, u, hu, ⟨hrow, hai⟩, hg⟩, B, hB, hr, rfl⟩
      have hc0 : W.cell? ⟨w1.heap.size, 0, none⟩ = some u := by rw [Lib.cell_of_heap hu]; rfl
      have hr0 : W.cell? ⟨B, 0, none⟩ = some (.int .i64 (colI n l j).s) := by rw [Lib.cell_of_heap hr]; rfl
      have hr1 : W.cell? ⟨B, 1, none⟩ = some (.int .i64 (colI n l j).m) := by rw [Lib.cell_of_heap hr]; rfl
      have hbs := hb.turns.size
      have hcr := hrng j
      gi_wp2_with (gi_at_builtin; refine wpListIn_append_ints _ rfl _ _ 26 rfl w4.heap.size i0 Try.underlying26 hi hz0 hz1 hz2 u _ _ rfl (hrow.alloc _) (hai.keep fun g hg => Below.heap_alloc _ _ _ (hrow.lt g hg).2) ⟨W.heap.size, 0, none⟩ 1 (.int .i64 (colI n l j).m) rfl (by rw [Lib.cell_of_heap (World.alloc_heap_new _ _)]; rfl) ⟨_, rfl, by omega, by omega⟩ (by unfold maxLen; omega) (by omega) (by simp; omega) ?_; intro v' w2 hown' hgrow hwh hall'; rw [leM_succ] at hown'; obtain ⟨g', cap', rfl⟩ := ownsRow_succ hown'; obtain ⟨hv1, q1, q2, q3, q4, q5⟩ := append_step hb (by omega) hu (by decide) hrow hg hown' hgrow hwh; have hc1 := hv1.cell; have hf1 := hv1.frozen)
      exact ⟨q1, q2, _, q3, ⟨q4, hall'.keep fun g hg => Below.heap_setCell _ _ _ g (fun e => by have h1 := (q4.lt g hg).1; have h2 : g = w1.heap.size := e; omega)⟩, q5⟩
    case done =>
      rintro D W hD ⟨hb, u, hu, ⟨hrow, hai⟩, hg⟩ hK
      have hc0 : W.cell? ⟨w1.heap.size, 0, none⟩ = some u := by rw [Lib.cell_of_heap hu]; rfl
      gi_wp2
      refine ⟨by simp, .inl ⟨_, _, rfl, run_takeDeferred hK, ?_⟩⟩
      refine ⟨_, results_tmp2 rfl _ _ _, hfin.out u _ _ rfl ⟨ownsRow_turns (ownsRow_base hrow (by omega)) (Turns.putObj (X := fun k => k = D) W rfl _) hg, hai.keep fun g hgg => World.putObj_heap_other (fun e => hg g hgg e)⟩ (below_end hT04 hb (fun k h => by omega) _)⟩
    case stop =>
      rintro D c' i W _ _ h _
      exact h.elim
end Go.Proofs.Ytkhnfmdhdfpdhaa

namespace Go.Proofs.Ytkhnfmdhdfpdhaa
open Go.RowKit Go.Shelf

/-- All least widths together. -/
def sumS (n : Nat) (l : List ByteArray) : Int := tot (sAt (cols n l)) n
def sumM (n : Nat) (l : List ByteArray) : Int := tot (mAt (cols n l)) n
/-- The widths for a room. -/
def wdL (n : Nat) (l : List ByteArray) (q : Int) : List Int := if q < sumS n l then evL n q else groL (cols n l) q
/-- How Widths ends. -/
def WdEnd (c : Int) (l : List ByteArray) (q : Int) (w : World) (e : Ending) (w' : World) : Prop :=
  Below w.heap.size w w' ∧
  ((chkG c l ≠ 0 ∧ e = .returned (.tuple #[.slice none 0 0, .bool false, .int .i64 (chkG c l)])) ∨
  (chkG c l = 0 ∧ ¬ (0 ≤ q ∧ q ≤ 4095) ∧ e = .returned (.tuple #[.slice none 0 0, .bool false, .int .i64 5])) ∨
  (chkG c l = 0 ∧ (0 ≤ q ∧ q ≤ 4095) ∧ ∃ b, w.heap.size ≤ b ∧ e = .returned (.tuple #[.slice (some ⟨b, 0, none⟩) c.toNat c.toNat, .bool (decide (q < sumS c.toNat l)), .int .i64 0]) ∧ IBk w' b (wdL c.toNat l q)))

set_option maxRecDepth 100000 in
set_option maxHeartbeats 4000000 in
theorem widths_any (c : Int) (v : Value) (l : List ByteArray) (q : Int) (hl : l.length ≤ 9223372036854775807) (hsz : ∀ t ∈ l, t.size ≤ 9223372036854775807) (w : World) (hS : StrsAt w v l) :
    Calls Try.prog 11 #[.agg #[.int .i64 c, v], .int .i64 q] w (WdEnd c l q w) := by
  have hB0 := (Below.refl w.heap.size w).alloc (Nat.le_refl _) (.cells #[.int .i64 c, v] 24)
  have hS0 := hS.below hB0 (Nat.le_refl _)
  have hs0 : (w.alloc (.cells #[.int .i64 c, v] 24)).heap.size = w.heap.size + 1 := World.size_alloc _ _
  have hbx : (w.alloc (.cells #[.int .i64 c, v] 24)).heap[w.heap.size]? = some (.cells #[.int .i64 c, v] 24) := World.alloc_heap_new w _
  have hck := gcheck_any c v l hl hsz _ hS0
  by_cases hz : ¬ chkG c l = 0
  · have hne : ¬ chkG c l = 0 := hz
    have c0 : (w.alloc (.cells #[.int .i64 c, v] 24)).cell? ⟨w.heap.size, 0, none⟩ = some (.int .i64 c) := by rw [Lib.cell_of_heap hbx]; rfl
    have c1 : (w.alloc (.cells #[.int .i64 c, v] 24)).cell? ⟨w.heap.size, 1, none⟩ = some v := by rw [Lib.cell_of_heap hbx]; rfl
    have hend : Hid (∀ e w1, e = .returned (.tuple #[.slice none 0 0, .bool false, .int .i64 (chkG c l)]) → Below (w.alloc (.cells #[.int .i64 c, v] 24)).heap.size (w.alloc (.cells #[.int .i64 c, v] 24)) w1 → WdEnd c l q w e w1) := fun e w1 he hb => ⟨hB0.trans (hb.mono hB0.size), .inl ⟨hz, he⟩⟩
    generalize chkG c l = ee at *
    generalize hP : WdEnd c l q w = P at *
    go_enter Try.func11, Try.ntmps11
    go_wp2_with (go_at_call 14; refine hck.mono ?_; rintro e w1 ⟨rfl, b1⟩)
    go_ret3
    exact hend.out _ _ rfl b1
  replace hz := Classical.not_not.1 hz
  rw [hz] at hck
  obtain ⟨n, rfl, hn1, hl1, hd1, hC1⟩ := chk_ok hz
  have hT : Tab n l := ⟨hn1, hl1, hd1, hC1⟩
  obtain ⟨n1, n2⟩ := hn1
  have c0 : (w.alloc (.cells #[.int .i64 n, v] 24)).cell? ⟨w.heap.size, 0, none⟩ = some (.int .i64 n) := by rw [Lib.cell_of_heap hbx]; rfl
  have c1 : (w.alloc (.cells #[.int .i64 n, v] 24)).cell? ⟨w.heap.size, 1, none⟩ = some v := by rw [Lib.cell_of_heap hbx]; rfl
  have hvb := strs_own hS (by rintro rfl; simp at hl1)
  by_cases hq0 : q < 0
  · have hend : Hid (∀ e w1, e = .returned (.tuple #[.slice none 0 0, .bool false, .int .i64 5]) → Below (w.alloc (.cells #[.int .i64 n, v] 24)).heap.size (w.alloc (.cells #[.int .i64 n, v] 24)) w1 → WdEnd n l q w e w1) := fun e w1 he hb => ⟨hB0.trans (hb.mono hB0.size), .inr (.inl ⟨hz, by omega, he⟩)⟩
    generalize hP : WdEnd n l q w = P at *
    go_enter Try.func11, Try.ntmps11
    go_wp2_with (go_at_call 14; refine hck.mono ?_; rintro e w1 ⟨rfl, b1⟩)
    go_ret3
    exact hend.out _ _ rfl b1
  by_cases hq1 : 4095 < q
  · have hend : Hid (∀ e w1, e = .returned (.tuple #[.slice none 0 0, .bool false, .int .i64 5]) → Below (w.alloc (.cells #[.int .i64 n, v] 24)).heap.size (w.alloc (.cells #[.int .i64 n, v] 24)) w1 → WdEnd n l q w e w1) := fun e w1 he hb => ⟨hB0.trans (hb.mono hB0.size), .inr (.inl ⟨hz, by omega, he⟩)⟩
    generalize hP : WdEnd n l q w = P at *
    go_enter Try.func11, Try.ntmps11
    go_wp2_with (go_at_call 14; refine hck.mono ?_; rintro e w1 ⟨rfl, b1⟩)
    go_ret3
    exact hend.out _ _ rfl b1
  have hco := columns_any n v
  have hcl := fun (W : World) hR hv => collect_any W.heap.size n v l hT (W.alloc (.cells #[.int .i64 n, v] 24)) hR hv
  have hF := cols_few hT
  have hcn : (cols n l).length = n := cols_len n l
  have hrow : ∀ u W, W.ownsRow w.heap.size 55 2 u n (rowT n l n) → RecAt 2 coL W u (cols n l) := fun u W h => rec_of_row coL_len hcn.symm h
  have htg := fun u W hr => together_any u (cols n l) hF W hr
  rw [hcn] at htg
  have hgr := fun u W hr (hq : tot (sAt (cols n l)) n ≤ q ∧ q ≤ 4095) => grown_any u (cols n l) hF q (by rw [hcn]; exact hq) W hr
  rw [hcn] at hgr
  have hev := evenly_any n q ⟨n1, n2⟩ ⟨by omega, by omega⟩
  have hSS : sumS n l = tot (sAt (cols n l)) n := rfl
  have hMM : sumM n l = tot (mAt (cols n l)) n := rfl
  have hrs := hF.tot n (by omega)
  rw [← hSS, ← hMM] at htg hgr hrs
  by_cases htt : q < sumS n l
  · have hend : Hid (∀ b e w1, e = .returned (.tuple #[.slice (some ⟨b, 0, none⟩) n n, .bool true, .int .i64 0]) → w.heap.size ≤ b → IBk w1 b (evL n q) → Below w.heap.size w w1 → WdEnd n l q w e w1) := fun b e w1 he h1 h2 h3 => ⟨h3, .inr (.inr ⟨hz, by omega, b, h1, by rw [he, show (n : Int).toNat = n from rfl, decide_eq_true htt], by rw [show (n : Int).toNat = n from rfl]; unfold wdL; rw [if_pos htt]; exact h2⟩)⟩
    clear hgr hMM hSS
    generalize sumS n l = S at *
    generalize sumM n l = M at *
    generalize hP : WdEnd n l q w = P at *
    go_enter Try.func11, Try.ntmps11
    go_wp2_with (first
      | (go_at_call 14; refine hck.mono ?_; rintro e w1 ⟨rfl, b1⟩; have hx1 := (b1.block w.heap.size (by omega)).trans hbx; (have c2 : w1.cell? ⟨w.heap.size, 0, none⟩ = some (.int .i64 n) := by rw [Lib.cell_of_heap hx1]; rfl); (have c3 : w1.cell? ⟨w.heap.size, 1, none⟩ = some v := by rw [Lib.cell_of_heap hx1]; rfl); have hB1 := hB0.trans (b1.mono hB0.size); have hlt1 := (Array.getElem?_eq_some_iff.1 hx1).1)
      | (go_at_call 27; refine (hco _).mono ?_; rintro e w2 ⟨rfl, rfl⟩; have hB2 := hB1.alloc hB1.size (.cells #[.int .i64 n, v] 24); have hR2 : ReadT w1.heap.size n v l (w1.alloc (.cells #[.int .i64 n, v] 24)) := ⟨TB.new w1 n v, hS.below hB2 (Nat.le_refl _)⟩; have hz2 : (w1.alloc (.cells #[.int .i64 n, v] 24)).heap.size = w1.heap.size + 1 := World.size_alloc _ _)
      | (go_at_call 29; refine (hcl w1 hR2 (fun g hg => by have := hvb g hg; omega)).mono ?_; rintro e w3 ⟨u, rfl, hr3, b3⟩; have hB3 := hB2.trans (b3.mono hB2.size); have hA3 := hrow u w3 (ownsRow_base hr3 (by have := hB2.size; omega)))
      | (go_at_call 30; refine (htg u w3 hA3).mono ?_; rintro e w4 ⟨rfl, b4⟩; have hB4 := hB3.trans (b4.mono hB3.size); have hB5 := hB4.alloc hB4.size (.cells #[.int .i64 S, .int .i64 M] 55); have hr5 := B2.new w4 S M; have d0 := hr5.c0; have d1 := hr5.c1; have hz3 := b3.size; have hz4 := b4.size; have hx5 : (w4.alloc (.cells #[.int .i64 S, .int .i64 M] 55)).heap[w.heap.size]? = some (.cells #[.int .i64 n, v] 24) := (Below.heap_alloc _ _ _ (by omega)).trans ((b4.block _ (by omega)).trans ((b3.block _ (by omega)).trans ((Below.heap_alloc _ _ _ hlt1).trans hx1))); (have c6 : (w4.alloc (.cells #[.int .i64 S, .int .i64 M] 55)).cell? ⟨w.heap.size, 0, none⟩ = some (.int .i64 n) := by rw [Lib.cell_of_heap hx5]; rfl))
      | (go_at_call 31; refine (hev _).mono ?_; rintro e w6 ⟨b, hb6, rfl, hI6, b6⟩; have hB6 := hB5.trans (b6.mono hB5.size); have hz6 := hB5.size))
    go_ret3
    exact hend.out b _ _ rfl (by omega) hI6 hB6
  · have hend : Hid (∀ b e w1, e = .returned (.tuple #[.slice (some ⟨b, 0, none⟩) n n, .bool false, .int .i64 0]) → w.heap.size ≤ b → IBk w1 b (groL (cols n l) q) → Below w.heap.size w w1 → WdEnd n l q w e w1) := fun b e w1 he h1 h2 h3 => ⟨h3, .inr (.inr ⟨hz, by omega, b, h1, by rw [he, show (n : Int).toNat = n from rfl, decide_eq_false htt], by rw [show (n : Int).toNat = n from rfl]; unfold wdL; rw [if_neg htt]; exact h2⟩)⟩
    clear hev
    have hgr' := fun u W hr => hgr u W hr ⟨by omega, by omega⟩
    clear hgr hMM hSS
    generalize sumS n l = S at *
    generalize sumM n l = M at *
    generalize hP : WdEnd n l q w = P at *
    go_enter Try.func11, Try.ntmps11
    go_wp2_with (first
      | (go_at_call 14; refine hck.mono ?_; rintro e w1 ⟨rfl, b1⟩; have hx1 := (b1.block w.heap.size (by omega)).trans hbx; (have c2 : w1.cell? ⟨w.heap.size, 0, none⟩ = some (.int .i64 n) := by rw [Lib.cell_of_heap hx1]; rfl); (have c3 : w1.cell? ⟨w.heap.size, 1, none⟩ = some v := by rw [Lib.cell_of_heap hx1]; rfl); have hB1 := hB0.trans (b1.mono hB0.size); have hlt1 := (Array.getElem?_eq_some_iff.1 hx1).1)
      | (go_at_call 27; refine (hco _).mono ?_; rintro e w2 ⟨rfl, rfl⟩; have hB2 := hB1.alloc hB1.size (.cells #[.int .i64 n, v] 24); have hR2 : ReadT w1.heap.size n v l (w1.alloc (.cells #[.int .i64 n, v] 24)) := ⟨TB.new w1 n v, hS.below hB2 (Nat.le_refl _)⟩; have hz2 : (w1.alloc (.cells #[.int .i64 n, v] 24)).heap.size = w1.heap.size + 1 := World.size_alloc _ _)
      | (go_at_call 29; refine (hcl w1 hR2 (fun g hg => by have := hvb g hg; omega)).mono ?_; rintro e w3 ⟨u, rfl, hr3, b3⟩; have hB3 := hB2.trans (b3.mono hB2.size); have hA3 := hrow u w3 (ownsRow_base hr3 (by have := hB2.size; omega)))
      | (go_at_call 30; refine (htg u w3 hA3).mono ?_; rintro e w4 ⟨rfl, b4⟩; have hB4 := hB3.trans (b4.mono hB3.size); have hB5 := hB4.alloc hB4.size (.cells #[.int .i64 S, .int .i64 M] 55); have hr5 := B2.new w4 S M; have d0 := hr5.c0; have d1 := hr5.c1; have hz3 := b3.size; have hz4 := b4.size; have hA5 := hA3.below (b4.alloc b4.size (.cells #[.int .i64 S, .int .i64 M] 55)) (Nat.le_refl _))
      | (go_at_call 32; refine (hgr' u _ hA5).mono ?_; rintro e w6 ⟨b, hb6, rfl, hI6, b6⟩; have hB6 := hB5.trans (b6.mono hB5.size); have hz6 := hB5.size))
    go_ret3
    exact hend.out b _ _ rfl (by omega) hI6 hB6
end Go.Proofs.Ytkhnfmdhdfpdhaa
