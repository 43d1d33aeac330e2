/-
  What is proved here: part tells the pieces between two places in a list of their own.
-/
import Derived.Test.YtpippmbkdjcbeaaWalkC
import Derived.Maps.AppendAt
import Derived.Test.YtpippmbkdjcbeaaAppend
namespace Go.Proofs.Ytpippmbkdjcbeaa
open Go.RowKit Go.Shelf
attribute [local go_sem] Oper.semAt_some wide_fn wide_depth

set_option maxHeartbeats 400000 in
theorem between_any (t : Option Addr) (f o : Int) (w : World) : Calls Try.prog 27 #[.pointer t, .int .i64 f, .int .i64 o] w fun e w' => e = .returned (.func (.func 39) #[] #[.pointer (some ⟨w.heap.size, 0, none⟩), .pointer (some ⟨w.heap.size + 1, 0, none⟩), .pointer (some ⟨w.heap.size + 2, 0, none⟩)]) ∧
    w' = ((w.alloc (.cells #[.pointer t] 22)).alloc (.cells #[.int .i64 f] 3)).alloc (.cells #[.int .i64 o] 3) := by
  go_enter Try.func27, Try.ntmps27
  go_wp2
  go_ret
  exact ⟨rfl, rfl⟩

theorem info55 : (Try.prog.info? 55).map (fun i => (i.zero, i.size, i.bytes)) = some (some (.agg #[.string ⟨#[]⟩]), 1, 16) := by kernel_rfl

theorem ReadB.turns {Bt Bf Bo t : Nat} {sv : Value} {rs : List (List UInt8)} {f o : Nat} {W W' : World} {own : Nat → Prop} (h : ReadB Bt Bf Bo t sv rs f o W) (ht : Turns own W W') (h1 : ¬ own Bt) (h2 : ¬ own Bf) (h3 : ¬ own Bo) (h4 : ¬ own t) (h5 : ∀ g, sv.ownBlock = some g → ¬ own g) : ReadB Bt Bf Bo t sv rs f o W' := by
  refine ⟨(ht.block _ (Array.getElem?_eq_some_iff.1 h.box).1 h1).trans h.box, (ht.block _ (Array.getElem?_eq_some_iff.1 h.boxf).1 h2).trans h.boxf, (ht.block _ (Array.getElem?_eq_some_iff.1 h.boxo).1 h3).trans h.boxo, (ht.block _ (Array.getElem?_eq_some_iff.1 h.text).1 h4).trans h.text, h.row.1, ?_⟩
  rcases h.row.2 with hn | ⟨g, cap, cur, rfl, hb, hg, r⟩
  · exact .inl hn
  · exact .inr ⟨g, cap, cur, rfl, hb, (ht.block _ (Array.getElem?_eq_some_iff.1 hg).1 (h5 g rfl)).trans hg, r⟩

theorem parts_len (f o : Nat) (rs : List (List UInt8)) : (parts 0 f o rs).length ≤ rs.flatten.length := by
  have h1 := len_le_flatten (cutRuns f o rs) (cutRuns_full f o rs)
  rw [cutRuns_flatten] at h1
  simp only [cutRuns, List.length_map, List.length_drop, List.length_take] at h1
  omega

theorem take_part (ps : List (Nat × List UInt8)) {j : Nat} (h : j < ps.length) : ((ps.map Prod.snd).take (j + 1)).map cellOf = ((ps.map Prod.snd).take j).map cellOf ++ [.string (pby ps j)] := by
  rw [List.take_succ_eq_append_getElem (by simpa using h), List.map_append]
  simp [cellOf, pby, h]

set_option maxRecDepth 100000 in
set_option maxHeartbeats 1000000 in
theorem part_text (t : Nat) (sv : Value) (rs : List (List UInt8)) (f o : Nat) (htot : rs.flatten.length ≤ 4096) (hcnt : rs.length ≤ 4096) (hf : f ≤ 9223372036854775807) (ho : o ≤ 4096) (w : World) (hT : TextAt t sv rs w) :
    Calls Try.prog 25 #[.pointer (some ⟨t, 0, none⟩), .int .i64 f, .int .i64 o] w fun e w' => ∃ v, e = .returned v ∧ w'.ownsRow w.heap.size 55 1 v (cutRuns f o rs).length ((cutRuns f o rs).map cellOf) ∧ Below w.heap.size w w' := by
  refine callsIn_wide (n := 0).1 ?_
  refine callsIn_of_wp_marks Try.func25 rfl trivial ?_ rfl
  simp only [Try.ntmps25, List.size_toArray, List.length_cons, List.length_nil, Nat.reduceAdd, Nat.reduceSub, Array.replicate_succ, Array.replicate_zero, List.push_toArray, List.append_toArray, List.nil_append, List.cons_append]
  gi_wp2_with (gi_at_call 27; refine (callsIn_wide.2 (between_any _ _ _ _)).mono ?_; rintro e w' ⟨rfl, rfl⟩)
  obtain ⟨w1, hw1⟩ : ∃ w1, ((((w.alloc (.cells #[.slice none 0 0] 23)).alloc (.cells #[.pointer (some ⟨t, 0, none⟩)] 22)).alloc (.cells #[.int .i64 f] 3)).alloc (.cells #[.int .i64 o] 3)) = w1 := ⟨_, rfl⟩
  have hs1 : w1.heap.size = w.heap.size + 4 := by rw [← hw1]; simp
  have hT1 : Turns Noth w w1 := by rw [← hw1]; exact (((Turns.alloc _ _ _).trans (Turns.alloc _ _ _)).trans (Turns.alloc _ _ _)).trans (Turns.alloc _ _ _)
  obtain ⟨⟨hB0, hB1⟩, hB2, hB3⟩ := allocs4 w (.cells #[.slice none 0 0] 23) (.cells #[.pointer (some ⟨t, 0, none⟩)] 22) (.cells #[.int .i64 f] 3) (.cells #[.int .i64 o] 3)
  rw [hw1] at hB0 hB1 hB2 hB3
  have hT' := hT.turns hT1 (fun _ h => h.elim)
  have hRd : ReadB (w.heap.size + 1) (w.heap.size + 1 + 1) (w.heap.size + 1 + 2) t sv rs f o w1 := ⟨hB1, hB2, hB3, hT'.text, hT'.row⟩
  have hpl := parts_len f o rs
  obtain ⟨i0, hi, hz0, hz1, hz2⟩ := info_parts info55
  rw [hw1]
  refine wp_range (gf := 39) (lb := #[.pointer (some ⟨w.heap.size + 1, 0, none⟩), .pointer (some ⟨w.heap.size + 1 + 1, 0, none⟩), .pointer (some ⟨w.heap.size + 1 + 2, 0, none⟩)]) rfl (enters_of Try.func39 (by kernel_rfl) rfl) (between1_gives (w.heap.size + 1) (w.heap.size + 1 + 1) (w.heap.size + 1 + 2) t sv rs f o htot hcnt hf ho) (fun _ => rfl)
    (fun j X W => Base w1 (fun k => k = w.heap.size) X W ∧ ∃ v, W.heap[w.heap.size]? = some (.cells #[v] 23) ∧ W.ownsRow w1.heap.size 55 1 v j (((cutRuns f o rs).take j).map cellOf) ∧ ∀ g, v.ownBlock = some g → ¬ X g)
    (fun _ _ _ _ => False)
    (fun a' j X W => (Base w1 (fun k => k = w.heap.size) X W ∧ ∃ v, W.heap[w.heap.size]? = some (.cells #[v] 23) ∧ W.ownsRow w1.heap.size 55 1 v j (((cutRuns f o rs).take j).map cellOf) ∧ ∀ g, v.ownBlock = some g → ¬ X g) ∧
      ∃ B, ¬ X B ∧ W.heap[B]? = some (.cells #[.string (pby (parts 0 f o rs) j)] 55) ∧
      a' = { tmps := #[.pointer (some ⟨t, 0, none⟩), .int .i64 f, .int .i64 o, undef, undef, undef, .slice none 0 0, .pointer (some ⟨w.heap.size, 0, none⟩), undef, .pointer (some ⟨B, 0, none⟩), .pointer (some ⟨t, 0, none⟩), .int .i64 f, .int .i64 o,
        .func (.func 39) #[] #[.pointer (some ⟨w.heap.size + 1, 0, none⟩), .pointer (some ⟨w.heap.size + 1 + 1, 0, none⟩), .pointer (some ⟨w.heap.size + 1 + 2, 0, none⟩)], .int .i64 (pat (parts 0 f o rs) j), .agg #[.string (pby (parts 0 f o rs) j)], undef, undef, undef, undef, undef], defers := [] })
    (steady_row (by omega) _ _ _ _ _) (fun _ => steady_never) (fun a' => (steady_row (by omega) _ _ _ _ _).and (steady_round a' _ _)) ?hR ⟨Base.start _ _, _, hB0, World.ownsRow_nil _ _ _ _, fun g hg => by cases hg⟩ ?assign ?body ?done ?stop
  case hR =>
    rintro i X W ⟨hb, _⟩
    exact hRd.turns hb.turns (by omega) (by omega) (by omega) (by have := hT.lt; omega) (fun g hg => by have := (hT.row.lt g hg).2; omega)
  case assign =>
    rintro l j X W K hj ⟨hb, v, hv, hr, hg⟩ hK
    unfold encPart
    gi_wp2
    refine hK _ _ (Keeps.alloc _ _ _) ⟨⟨hb.alloc _, v, (Below.heap_alloc _ _ _ (by have := hb.turns.size; omega)).trans hv, hr.alloc _, hg⟩, W.heap.size, hb.fresh, World.alloc_heap_new _ _, rfl⟩
  case body =>
    rintro l j X a' W hj ⟨⟨hb, v, hv, hrow, hg⟩, B, hB, hr, rfl⟩
    have hc0 : W.cell? ⟨w.heap.size, 0, none⟩ = some v := by rw [Lib.cell_of_heap hv]; rfl
    have hr0 : W.cell? ⟨B, 0, none⟩ = some (.string (pby (parts 0 f o rs) j)) := by rw [Lib.cell_of_heap hr]; rfl
    have hbs := hb.turns.size
    gi_wp2_with (gi_at_builtin; refine wpListIn_append_where _ rfl _ _ 23 rfl w1.heap.size 55 i0 _ 1 16 Try.underlying23 hi hz0 hz1 hz2 rfl (by decide) v _ _ rfl (hrow.alloc _) ⟨W.heap.size, 0, none⟩ 1 1 [.string (pby (parts 0 f o rs) j)] rfl rfl (cell_one_new _ _ _) (by simp [Value.oneCell']) (by unfold maxLen; omega) (by omega) (by simp; omega) ?_; intro v' w2 hown' hgrow hwh; obtain ⟨g', cap', rfl⟩ := ownsRow_succ hown'; obtain ⟨hv1, q1, q2, q3, q4, q5⟩ := append_step hb (by omega) hv (by decide) hrow hg hown' hgrow hwh; have hc1 := hv1.cell; have hf1 := hv1.frozen)
    refine ⟨q1, q2, _, q3, ?_, q5⟩
    unfold cutRuns
    rw [take_part _ hj]
    exact q4
  case done =>
    rintro D W hD ⟨hb, v, hv, hrow, hg⟩ hK
    have hc0 : W.cell? ⟨w.heap.size, 0, none⟩ = some v := by rw [Lib.cell_of_heap hv]; rfl
    gi_wp2
    refine ⟨by simp, .inl ⟨_, _, rfl, run_takeDeferred hK, ?_⟩⟩
    refine ⟨_, results_tmp rfl _ _ _, v, rfl, ?_, below_end hT1 hb (fun k h => by omega) _⟩
    have hlen : (cutRuns f o rs).length = (parts 0 f o rs).length := by simp [cutRuns]
    rw [← hlen, List.take_length] at hrow
    exact ownsRow_turns (ownsRow_base hrow (by omega)) (Turns.putObj (X := fun k => k = D) W rfl _) hg
  case stop =>
    rintro D c i W _ _ h _
    exact h.elim

end Go.Proofs.Ytpippmbkdjcbeaa
