/-
  What is proved here: what a Builder's WriteString does, and that join tells the bytes between two places.
-/
import Derived.Test.YtpippmbkdjcbeaaWalkD
import Derived.Test.YtpippmbkdjcbeaaShelf
namespace Go.Proofs.Ytpippmbkdjcbeaa
open Go.RowKit Go.Shelf
attribute [local go_sem] Oper.semAt_some wide_fn wide_depth

theorem info69 : (Try.prog.info? 69).map (·.size) = some 2 := by kernel_rfl
theorem lies69 : liesAt Try.prog Try.prog.depth 69 (2 / Try.prog.cellsOf 69) 0 69 1 = true := by kernel_rfl
theorem info5 : (Try.prog.info? 5).map (fun i => (i.zero, i.size, i.bytes)) = some (some (.int .u8 0), 1, 1) := by kernel_rfl

set_option maxHeartbeats 400000 in
set_option maxRecDepth 100000 in
theorem copyCheck_used (b : Nat) (w : World) (h0 : w.cell? ⟨b, 0, none⟩ = some (.pointer (some ⟨b, 0, none⟩))) :
    Calls Try.prog 44 #[.pointer (some ⟨b, 0, none⟩)] w fun e w' => e = .returned (.tuple #[]) ∧ w' = w := by
  obtain ⟨j, hj, _⟩ := Option.map_eq_some_iff.1 info69
  go_enter Try.func44, Try.ntmps44
  go_wp2
  rw [Lib.run_neq_ptr_same w _ Try.underlying66 hj]
  go_wp2
  go_end0
  exact ⟨rfl, rfl⟩

set_option maxHeartbeats 400000 in
set_option maxRecDepth 100000 in
theorem copyCheck_fresh (b : Nat) (w : World) (h0 : w.cell? ⟨b, 0, none⟩ = some (.pointer none)) (hsh : w.shape? b = some (69, 2)) (hfz : w.frozen? ⟨b, 0, none⟩ = false) :
    Calls Try.prog 44 #[.pointer (some ⟨b, 0, none⟩)] w fun e w' => e = .returned (.tuple #[]) ∧ w' = w.setCell ⟨b, 0, none⟩ (.pointer (some ⟨b, 0, none⟩)) := by
  obtain ⟨j, hj, hjs⟩ := Option.map_eq_some_iff.1 info69
  go_enter Try.func44, Try.ntmps44
  go_wp2
  rw [Lib.run_to_unsafe w ⟨b, 0, none⟩ Try.underlying66 Try.underlying86 hj (by rw [hjs]; decide) hsh (Nat.zero_lt_succ 1)]
  simp only [Result.andThen]
  rw [Oper.upon_value]
  go_wp2
  rw [run_callFunc_extern Try.func48 (by kernel_rfl) (by kernel_rfl) (by kernel_rfl) (e := Extern.AbiNoEscape.same) (by kernel_rfl)]
  rw [Lib.run_noEscape]
  simp only [Result.andThen]
  rw [Oper.upon_value]
  go_wp2
  rw [Lib.run_from_unsafe w ⟨b, 0, none⟩ Try.underlying86 Try.underlying66 hj hsh lies69]
  simp only [Result.andThen]
  rw [Oper.upon_value]
  go_wp2
  go_end0
  exact ⟨rfl, rfl⟩

theorem copyCheck_any (b : Nat) (p v : Value) (w : World) (hb : w.heap[b]? = some (.cells #[p, v] 69)) (hp : p = .pointer none ∨ p = .pointer (some ⟨b, 0, none⟩)) :
    Calls Try.prog 44 #[.pointer (some ⟨b, 0, none⟩)] w fun e w' => e = .returned (.tuple #[]) ∧ w'.heap[b]? = some (.cells #[.pointer (some ⟨b, 0, none⟩), v] 69) ∧ Turns (fun k => k = b) w w' ∧ w'.heap.size = w.heap.size := by
  rcases hp with rfl | rfl
  · refine (copyCheck_fresh b w (by rw [Lib.cell_of_heap hb]; rfl) (by simp [World.shape?, hb]) (Lib.frozen_of_heap hb 0)).mono ?_
    rintro e w' ⟨rfl, rfl⟩
    exact ⟨rfl, by simp [World.setCell, Array.getElem?_modify, hb], Turns.setCell (X := fun k => k = b) w rfl _, by simp⟩
  · refine (copyCheck_used b w (by rw [Lib.cell_of_heap hb]; rfl)).mono ?_
    rintro e w' ⟨rfl, rfl⟩
    exact ⟨rfl, hb, Turns.refl _ _, rfl⟩

set_option maxHeartbeats 1000000 in
set_option maxRecDepth 100000 in
theorem writeString_any (base b : Nat) (p v : Value) (bs : List Value) (s : ByteArray) (w : World) (hb : w.heap[b]? = some (.cells #[p, v] 69)) (hp : p = .pointer none ∨ p = .pointer (some ⟨b, 0, none⟩)) (hown0 : w.ownsRow base 5 1 v bs.length bs) (hlen : bs.length + s.size ≤ 140737488355328) (hbase : base ≤ w.heap.size) :
    Calls Try.prog 33 #[.pointer (some ⟨b, 0, none⟩), .string s] w fun e w' => e = .returned (.tuple #[.int .i64 s.size, .nilIface]) ∧ ∃ v', w'.heap[b]? = some (.cells #[.pointer (some ⟨b, 0, none⟩), v'] 69) ∧ w'.ownsRow base 5 1 v' (bs ++ Lib.strCells s).length (bs ++ Lib.strCells s) ∧
      Turns (fun k => k = b ∨ v.ownBlock = some k) w w' ∧ (v'.ownBlock = v.ownBlock ∨ ∀ g, v'.ownBlock = some g → w.heap.size ≤ g) := by
  obtain ⟨i0, hi, hz0, hz1, hz2⟩ := info_parts info5
  go_enter Try.func33, Try.ntmps33
  go_wp2_with (go_at_call 44; refine (copyCheck_any b p v _ hb hp).mono ?_)
  rintro e w1 ⟨rfl, hbk, ht1, hsz⟩
  have hne : v.ownBlock ≠ some b := Lib.ownBlock_ne hown0 hb (by decide)
  have hown : w1.ownsRow base 5 1 v bs.length bs := ownsRow_turns hown0 ht1 (fun g hg e => hne (e ▸ hg))
  have c0 : w1.cell? ⟨b, 0, none⟩ = some (.pointer (some ⟨b, 0, none⟩)) := by rw [Lib.cell_of_heap hbk]; rfl
  have c1 : w1.cell? ⟨b, 1, none⟩ = some v := by rw [Lib.cell_of_heap hbk]; rfl
  go_wp2_with (at_builtin; refine wpList_append_where_string _ rfl _ _ 67 9 rfl base 5 i0 Try.underlying67 Try.underlying9 hi hz0 hz1 hz2 v _ _ rfl hown s rfl (by unfold maxLen; omega) (by omega) (by omega) ?_)
  intro v' w2 hown' hgrow hwh
  have hlt : b < w1.heap.size := (Array.getElem?_eq_some_iff.1 hbk).1
  have hb2 : w2.heap[b]? = some (.cells #[.pointer (some ⟨b, 0, none⟩), v] 69 (0, 0)) := (hgrow.block b hlt (fun e => hne e.symm)).trans hbk
  have d0 : w2.cell? ⟨b, 0, none⟩ = some (.pointer (some ⟨b, 0, none⟩)) := by rw [Lib.cell_of_heap hb2]; rfl
  have d1 : w2.cell? ⟨b, 1, none⟩ = some v := by rw [Lib.cell_of_heap hb2]; rfl
  have f1 : w2.frozen? ⟨b, 1, none⟩ = false := Lib.frozen_of_heap hb2 1
  have hne' : v'.ownBlock ≠ some b := Lib.ownBlock_ne hown' hb2 (by decide)
  obtain ⟨ao, n', cap, rfl⟩ : ∃ ao n' cap, v' = .slice ao n' cap := by
    rcases hown'.2 with ⟨hv, _⟩ | ⟨g, cap, cur, hv, _⟩
    · exact ⟨_, _, _, hv⟩
    · exact ⟨_, _, _, hv⟩
  go_wp2
  go_ret2
  refine ⟨rfl, .slice ao n' cap, by simp [World.setCell, Array.getElem?_modify, hb2], ?_, ?_, ?_⟩
  · have : (w2.setCell ⟨b, 1, none⟩ (.slice ao n' cap)).ownsRow base 5 1 (.slice ao n' cap) (bs.length + s.size) (bs ++ Lib.strCells s) :=
      ownsRow_turns hown' (Turns.setCell (X := fun k => k = b) w2 rfl _) (fun g hg e => hne' (e ▸ hg))
    rw [List.length_append, Lib.strCells_length]
    exact this
  · exact ((ht1.mono (fun _ h => .inl h)).trans ((Turns.of_grownBy hgrow).mono (fun _ h => .inr h))).trans (Turns.setCell w2 (.inl rfl) _)
  · exact hwh

/-- The loop's own Builder, which has a row of the loop's own. -/
theorem steady_builder {w₁ : World} {own : Nat → Prop} {B : Nat} (hB : B < w₁.heap.size) (base : Nat) (xs : Nat → List Value) :
    Steady (fun i X W => Base w₁ own X W ∧ ∃ p v, W.heap[B]? = some (.cells #[p, v] 69) ∧ (p = .pointer none ∨ p = .pointer (some ⟨B, 0, none⟩)) ∧ W.ownsRow base 5 1 v (xs i).length (xs i) ∧ ∀ g, v.ownBlock = some g → ¬ X g) :=
  fun _ X X' W W' hs ht hx => by
    obtain ⟨hb, p, v, hv, hp, hr, hg⟩ := hs
    refine ⟨hb.step ht hx, p, v, (hb.keep ht hB).trans hv, hp, ownsRow_turns hr ht hg, fun g h h' => ?_⟩
    have := (hr.lt g h).2
    exact (hx g h').elim (hg g h) (fun h => by omega)

theorem flat_part (ps : List (Nat × List UInt8)) {j : Nat} (h : j < ps.length) : Lib.byteCells ((ps.map Prod.snd).take (j + 1)).flatten = Lib.byteCells ((ps.map Prod.snd).take j).flatten ++ Lib.strCells (pby ps j) := by
  rw [List.take_succ_eq_append_getElem (by simpa using h), List.flatten_append]
  simp [Lib.byteCells, Lib.strCells, pby, h]

theorem take_flat_le (rs : List (List UInt8)) (j : Nat) : (rs.take j).flatten.length ≤ rs.flatten.length := start_le rs j

theorem byteCells_append (a b : List UInt8) : Lib.byteCells (a ++ b) = Lib.byteCells a ++ Lib.byteCells b := by simp [Lib.byteCells]

set_option maxRecDepth 100000 in
set_option maxHeartbeats 1000000 in
theorem join_text (t : Nat) (sv : Value) (rs : List (List UInt8)) (f o : Nat) (htot : rs.flatten.length ≤ 4096) (hcnt : rs.length ≤ 4096) (hf : f ≤ 9223372036854775807) (ho : o ≤ 4096) (w : World) (hT : TextAt t sv rs w) :
    Calls Try.prog 22 #[.pointer (some ⟨t, 0, none⟩), .int .i64 f, .int .i64 o] w fun e w' => e = .returned (.string ⟨((rs.flatten.take o).drop f).toArray⟩) ∧ Below w.heap.size w w' := by
  refine callsIn_wide (n := 0).1 ?_
  refine callsIn_of_wp_marks Try.func22 rfl trivial ?_ rfl
  simp only [Try.ntmps22, List.size_toArray, List.length_cons, List.length_nil, Nat.reduceAdd, Nat.reduceSub, Array.replicate_succ, Array.replicate_zero, List.push_toArray, List.append_toArray, List.nil_append, List.cons_append]
  gi_wp2_with (gi_at_call 27; refine (callsIn_wide.2 (between_any _ _ _ _)).mono ?_; rintro e w' ⟨rfl, rfl⟩)
  obtain ⟨w1, hw1⟩ : ∃ w1, ((((w.alloc (.cells #[.pointer none, .slice none 0 0] 69)).alloc (.cells #[.pointer (some ⟨t, 0, none⟩)] 22)).alloc (.cells #[.int .i64 f] 3)).alloc (.cells #[.int .i64 o] 3)) = w1 := ⟨_, rfl⟩
  have hs1 : w1.heap.size = w.heap.size + 4 := by rw [← hw1]; simp
  have hT1 : Turns Noth w w1 := by rw [← hw1]; exact (((Turns.alloc _ _ _).trans (Turns.alloc _ _ _)).trans (Turns.alloc _ _ _)).trans (Turns.alloc _ _ _)
  obtain ⟨⟨hB0, hB1⟩, hB2, hB3⟩ := allocs4 w (.cells #[.pointer none, .slice none 0 0] 69) (.cells #[.pointer (some ⟨t, 0, none⟩)] 22) (.cells #[.int .i64 f] 3) (.cells #[.int .i64 o] 3)
  rw [hw1] at hB0 hB1 hB2 hB3
  have hT' := hT.turns hT1 (fun _ h => h.elim)
  have hRd : ReadB (w.heap.size + 1) (w.heap.size + 1 + 1) (w.heap.size + 1 + 2) t sv rs f o w1 := ⟨hB1, hB2, hB3, hT'.text, hT'.row⟩
  have hfl : (cutRuns f o rs).flatten.length ≤ 4096 := by rw [cutRuns_flatten]; simp only [List.length_drop, List.length_take]; omega
  rw [hw1]
  refine wp_range (gf := 39) (lb := #[.pointer (some ⟨w.heap.size + 1, 0, none⟩), .pointer (some ⟨w.heap.size + 1 + 1, 0, none⟩), .pointer (some ⟨w.heap.size + 1 + 2, 0, none⟩)]) rfl (enters_of Try.func39 (by kernel_rfl) rfl) (between1_gives (w.heap.size + 1) (w.heap.size + 1 + 1) (w.heap.size + 1 + 2) t sv rs f o htot hcnt hf ho) (fun _ => rfl)
    (fun j X W => Base w1 (fun k => k = w.heap.size) X W ∧ ∃ p v, W.heap[w.heap.size]? = some (.cells #[p, v] 69) ∧ (p = .pointer none ∨ p = .pointer (some ⟨w.heap.size, 0, none⟩)) ∧ W.ownsRow w1.heap.size 5 1 v (Lib.byteCells ((cutRuns f o rs).take j).flatten).length (Lib.byteCells ((cutRuns f o rs).take j).flatten) ∧ ∀ g, v.ownBlock = some g → ¬ X g)
    (fun _ _ _ _ => False)
    (fun a' j X W => (Base w1 (fun k => k = w.heap.size) X W ∧ ∃ p v, W.heap[w.heap.size]? = some (.cells #[p, v] 69) ∧ (p = .pointer none ∨ p = .pointer (some ⟨w.heap.size, 0, none⟩)) ∧ W.ownsRow w1.heap.size 5 1 v (Lib.byteCells ((cutRuns f o rs).take j).flatten).length (Lib.byteCells ((cutRuns f o rs).take j).flatten) ∧ ∀ g, v.ownBlock = some g → ¬ X g) ∧
      ∃ B, ¬ X B ∧ W.heap[B]? = some (.cells #[.string (pby (parts 0 f o rs) j)] 55) ∧
      a' = { tmps := #[.pointer (some ⟨t, 0, none⟩), .int .i64 f, .int .i64 o, undef, undef, undef, .string ⟨#[]⟩, .pointer (some ⟨w.heap.size, 0, none⟩), undef, .pointer (some ⟨B, 0, none⟩), .pointer (some ⟨t, 0, none⟩), .int .i64 f, .int .i64 o,
        .func (.func 39) #[] #[.pointer (some ⟨w.heap.size + 1, 0, none⟩), .pointer (some ⟨w.heap.size + 1 + 1, 0, none⟩), .pointer (some ⟨w.heap.size + 1 + 2, 0, none⟩)], .int .i64 (pat (parts 0 f o rs) j), .agg #[.string (pby (parts 0 f o rs) j)], undef, undef, undef, undef], defers := [] })
    (steady_builder (by omega) _ _) (fun _ => steady_never) (fun a' => (steady_builder (by omega) _ _).and (steady_round a' _ _)) ?hR ⟨Base.start _ _, _, _, hB0, .inl rfl, World.ownsRow_nil _ _ _ _, fun g hg => by cases hg⟩ ?assign ?body ?done ?stop
  case hR =>
    rintro i X W ⟨hb, _⟩
    exact hRd.turns hb.turns (by omega) (by omega) (by omega) (by have := hT.lt; omega) (fun g hg => by have := (hT.row.lt g hg).2; omega)
  case assign =>
    rintro l j X W K hj ⟨hb, p, v, hv, hp, hr, hg⟩ hK
    unfold encPart
    gi_wp2
    refine hK _ _ (Keeps.alloc _ _ _) ⟨⟨hb.alloc _, p, v, (Below.heap_alloc _ _ _ (by have := hb.turns.size; omega)).trans hv, hp, hr.alloc _, hg⟩, W.heap.size, hb.fresh, World.alloc_heap_new _ _, rfl⟩
  case body =>
    rintro l j X a' W hj ⟨⟨hb, p, v, hv, hp, hrow, hg⟩, B, hB, hr, rfl⟩
    have hr0 : W.cell? ⟨B, 0, none⟩ = some (.string (pby (parts 0 f o rs) j)) := by rw [Lib.cell_of_heap hr]; rfl
    have hbs := hb.turns.size
    have hnext := flat_part (parts 0 f o rs) hj
    have hl1 : (Lib.byteCells ((cutRuns f o rs).take (j + 1)).flatten).length ≤ 4096 := by rw [Lib.byteCells_length]; exact Nat.le_trans (take_flat_le _ _) hfl
    have hl2 : (Lib.byteCells ((cutRuns f o rs).take j).flatten).length + (pby (parts 0 f o rs) j).size ≤ 140737488355328 := by
      have := congrArg List.length hnext
      rw [List.length_append, Lib.strCells_length] at this
      unfold cutRuns at hl1 ⊢
      omega
    have HN : Hid (_ = _) := hnext
    clear hnext
    gi_wp2_with (gi_at_call 33; refine (CallsIn.inRound l (callsIn_wide.2 (writeString_any w1.heap.size w.heap.size p v _ (pby (parts 0 f o rs) j) _ hv hp hrow hl2 hbs))).mono ?_; rintro e W2 ⟨rfl, v', q1, q2, q3, q4⟩)
    have hyb : ∀ k, (k = w.heap.size ∨ v.ownBlock = some k) → k = w.heap.size ∨ w1.heap.size ≤ k := fun k h => h.elim .inl (fun h => .inr (hrow.lt k h).1)
    refine ⟨Keeps.of_turns q3 (fun k hk h => h.elim (fun e => by have := (hb.young k hk).1; omega) (fun e => hg k e hk)), ⟨hb.turns.trans' q3 hyb, fun k hk => by have := hb.young k hk; have := q3.size; omega⟩, _, v', q1, .inr rfl, ?_, fun g hgg hx => ?_⟩
    · unfold cutRuns at q2 ⊢
      rw [HN.out]
      exact q2
    · rcases q4 with h' | h'
      · exact hg g (h' ▸ hgg) hx
      · have := h' g hgg; have := (hb.young g hx).2; omega
  case done =>
    rintro D W hD ⟨hb, p, v, hv, hp, hrow, hg⟩ hK
    have hbs := hb.turns.size
    have hlen : (cutRuns f o rs).length = (parts 0 f o rs).length := by simp [cutRuns]
    rw [← hlen, List.take_length] at hrow
    have hrow' := ownsRow_base hrow (show w.heap.size ≤ w1.heap.size by omega)
    have hbl : Lib.IsBuilderF 69 5 w.heap.size w.heap.size (Lib.byteCells (cutRuns f o rs).flatten) W := by
      refine Lib.IsBuilderF.of ?_
      rcases hp with rfl | rfl
      · exact .inl ⟨Nat.le_refl _, v, hv, hrow', Lib.ownBlock_ne hrow hv (by decide)⟩
      · exact .inr ⟨Nat.le_refl _, v, hv, hrow', Lib.ownBlock_ne hrow hv (by decide)⟩
    gi_wp2_with (gi_at_call 35; refine (callsIn_wide.2 (Try.Builder_String_any_k w.heap.size w.heap.size _ _ hbl (by omega))).mono ?_; rintro e W2 ⟨rfl, _, q1, q2⟩)
    have hK2 : W2.heap[D]? = some (.deferred (some [])) := q2 D _ hK (by intro e; have := (hb.young D rfl).1; cases e; omega) (by intro c fz e; cases e)
    refine ⟨by simp, .inl ⟨_, _, rfl, run_takeDeferred hK2, ?_⟩⟩
    refine ⟨_, results_tmp rfl _ _ _, ?_, ?_⟩
    · rw [← cutRuns_flatten]; rfl
    · have hDy := (hb.young D rfl).1
      refine Below.trans (Below.trans (b := W) ?_ q1) ((Turns.putObj (X := fun k => k = D) W2 rfl _).below (by have := q1.size; omega) (fun k h => by omega))
      exact ((hT1.mono (Y := fun k => k = w.heap.size) (fun _ h => h.elim)).trans hb.turns).below (Nat.le_refl _) (fun k h => by omega)
  case stop =>
    rintro D c i W _ _ h _
    exact h.elim

end Go.Proofs.Ytpippmbkdjcbeaa
