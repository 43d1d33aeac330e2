/-
  What is proved here: what Len and Pieces answer of a text in pieces.
-/
import Derived.Test.YtpippmbkdjcbeaaWalkA
namespace Go.Proofs.Ytpippmbkdjcbeaa
open Go.RowKit Go.Shelf
attribute [local go_sem] Oper.semAt_some wide_fn wide_depth

/-- A text in pieces. -/
structure TextAt (t : Nat) (sv : Value) (rs : List (List UInt8)) (W : World) : Prop where
  text : W.heap[t]? = some (.cells #[.pointer (some ⟨t, 0, none⟩), sv] 25 (0, 0))
  row : W.ownsRow 0 55 1 sv rs.length (rs.map cellOf)

theorem TextAt.lt {t : Nat} {sv : Value} {rs : List (List UInt8)} {W : World} (h : TextAt t sv rs W) : t < W.heap.size := (Array.getElem?_eq_some_iff.1 h.text).1
theorem TextAt.turns {t : Nat} {sv : Value} {rs : List (List UInt8)} {W W' : World} {own : Nat → Prop} (h : TextAt t sv rs W) (ht : Turns own W W') (ho : ∀ k, own k → W.heap.size ≤ k) : TextAt t sv rs W' := by
  have hk : ∀ k, k < W.heap.size → W'.heap[k]? = W.heap[k]? := fun k hk => ht.block k hk (fun hx => by have := ho k hx; omega)
  refine ⟨(hk t h.lt).trans h.text, h.row.kept (row := none) ⟨ht.os, ht.tape, ht.output, ht.size, fun k h' _ => hk k h'⟩ ?_⟩
  cases sv.ownBlock <;> simp
theorem TextAt.read {t : Nat} {sv : Value} {rs : List (List UInt8)} {W : World} (h : TextAt t sv rs W) {Bt : Nat} (hb : W.heap[Bt]? = some (.cells #[.pointer (some ⟨t, 0, none⟩)] 22 (0, 0))) : Read Bt t sv rs W := ⟨hb, h.text, h.row⟩

theorem Read.turns {Bt t : Nat} {sv : Value} {rs : List (List UInt8)} {W W' : World} {own : Nat → Prop} (h : Read Bt t sv rs W) (ht : Turns own W W') (h1 : ¬ own Bt) (h2 : ¬ own t) (h3 : ∀ g, sv.ownBlock = some g → ¬ own g) : Read Bt t sv rs W' := by
  refine ⟨(ht.block _ (Array.getElem?_eq_some_iff.1 h.box).1 h1).trans h.box, (ht.block _ (Array.getElem?_eq_some_iff.1 h.text).1 h2).trans h.text, h.row.1, ?_⟩
  rcases h.row.2 with hn | ⟨g, cap, cur, rfl, hb, hg, r⟩
  · exact .inl hn
  · exact .inr ⟨g, cap, cur, rfl, hb, (ht.block _ (Array.getElem?_eq_some_iff.1 hg).1 (h3 g rfl)).trans hg, r⟩

set_option maxRecDepth 100000 in
set_option maxHeartbeats 2000000 in
theorem len_text (t : Nat) (sv : Value) (rs : List (List UInt8)) (htot : rs.flatten.length ≤ 4096) (hcnt : rs.length ≤ 4096) (w : World) (hT : TextAt t sv rs w) :
    Calls Try.prog 13 #[.pointer (some ⟨t, 0, none⟩)] w fun e w' => e = .returned (.int .i64 rs.flatten.length) ∧ Below w.heap.size w w' := by
  refine callsIn_wide (n := 0).1 ?_
  refine callsIn_of_wp_marks Try.func13 rfl trivial ?_ rfl
  simp only [Try.ntmps13, List.size_toArray, List.length_cons, List.length_nil, Nat.reduceAdd, Nat.reduceSub, Array.replicate_succ, Array.replicate_zero, List.push_toArray, List.append_toArray, List.nil_append, List.cons_append]
  gi_wp2_with (gi_at_call 23; refine (callsIn_wide.2 (walk_any _ _)).mono ?_; rintro e w' ⟨rfl, rfl⟩)
  obtain ⟨w1, hw1⟩ : ∃ w1, (w.alloc (.cells #[.int .i64 0] 3)).alloc (.cells #[.pointer (some ⟨t, 0, none⟩)] 22) = w1 := ⟨_, rfl⟩
  have hs1 : w1.heap.size = w.heap.size + 2 := by rw [← hw1]; simp
  have hT1 : Turns Noth w w1 := by rw [← hw1]; exact (Turns.alloc _ _ _).trans (Turns.alloc _ _ _)
  have hB1 : w1.heap[w.heap.size]? = some (.cells #[.int .i64 0] 3) := by rw [← hw1]; exact (Below.heap_alloc _ _ _ (by simp)).trans (World.alloc_heap_new w _)
  have hB2 : w1.heap[w.heap.size + 1]? = some (.cells #[.pointer (some ⟨t, 0, none⟩)] 22) := by rw [← hw1]; have := World.alloc_heap_new (w.alloc (.cells #[.int .i64 0] 3)) (.cells #[.pointer (some ⟨t, 0, none⟩)] 22); rwa [World.size_alloc] at this
  have hRd : Read (w.heap.size + 1) t sv rs w1 := (hT.turns hT1 (fun _ h => h.elim)).read hB2
  rw [hw1]
  refine wp_range (gf := 37) (lb := #[.pointer (some ⟨w.heap.size + 1, 0, none⟩)]) rfl (enters_of Try.func37 (by kernel_rfl) rfl) (walk1_gives (w.heap.size + 1) t sv rs htot hcnt) (fun _ => rfl)
    (fun i X W => Base w1 (fun k => k = w.heap.size) X W ∧ W.heap[w.heap.size]? = some (.cells #[.int .i64 (start rs i)] 3))
    (fun _ _ _ _ => False)
    (fun a' i X W => (Base w1 (fun k => k = w.heap.size) X W ∧ W.heap[w.heap.size]? = some (.cells #[.int .i64 (start rs i)] 3)) ∧ ∃ B, ¬ X B ∧ W.heap[B]? = some (.cells #[.string (pc rs i)] 55) ∧
      a' = { tmps := #[.pointer (some ⟨t, 0, none⟩), undef, .int .i64 0, .pointer (some ⟨w.heap.size, 0, none⟩), undef, .pointer (some ⟨B, 0, none⟩), .pointer (some ⟨t, 0, none⟩), .func (.func 37) #[] #[.pointer (some ⟨w.heap.size + 1, 0, none⟩)], .int .i64 (start rs i), .agg #[.string (pc rs i)], undef, undef, undef, undef, undef, undef], defers := [] })
    (steady_box (by omega) _) (fun _ => steady_never) (fun a' => (steady_box (by omega) _).and (steady_round a' _ _)) ?hR ⟨Base.start _ _, hB1⟩ ?assign ?body ?done ?stop
  case hR =>
    rintro i X W ⟨hb, _⟩
    exact hRd.turns hb.turns (by omega) (by have := hT.lt; omega) (fun g hg => by have := (hT.row.lt g hg).2; omega)
  case assign =>
    rintro l i X W K hi ⟨hb, hc⟩ hK
    unfold encRun
    gi_wp2
    refine hK _ _ (Keeps.alloc _ _ _) ⟨⟨hb.alloc _, (Below.heap_alloc _ _ _ (by have := hb.turns.size; omega)).trans hc⟩, W.heap.size, hb.fresh, World.alloc_heap_new _ _, rfl⟩
  case body =>
    rintro l i X a' W hi ⟨⟨hb, hc⟩, B, hB, hr, rfl⟩
    have hc0 : W.cell? ⟨w.heap.size, 0, none⟩ = some (.int .i64 (start rs i)) := by rw [Lib.cell_of_heap hc]; rfl
    have hf0 : W.frozen? ⟨w.heap.size, 0, none⟩ = false := Lib.frozen_of_heap hc 0
    have hr0 : W.cell? ⟨B, 0, none⟩ = some (.string (pc rs i)) := by rw [Lib.cell_of_heap hr]; rfl
    have hst := start_succ rs hi
    have hsl := start_le rs (i + 1)
    have hps := pc_size hi
    gi_wp2
    refine ⟨Keeps.set W (fun h => by have := (hb.young _ h).1; simp at this; omega) _, hb.set rfl _, ?_⟩
    have := Boxed.set (.int .i64 ((start rs i : Int) + (rs[i].length : Int))) (show Boxed W w.heap.size 3 _ from hc)
    rw [hst, Int.natCast_add]
    exact this
  case done =>
    rintro D W hD ⟨hb, hc⟩ hK
    have hc0 : W.cell? ⟨w.heap.size, 0, none⟩ = some (.int .i64 (start rs rs.length)) := by rw [Lib.cell_of_heap hc]; rfl
    gi_wp2
    refine ⟨by simp, .inl ⟨_, _, rfl, run_takeDeferred hK, ?_⟩⟩
    refine ⟨_, results_tmp rfl _ _ _, ?_, ?_⟩
    · rw [start_all]; rfl
    · exact below_end hT1 hb (fun k h => by omega) _
  case stop =>
    rintro D c i W _ _ h _
    exact h.elim

set_option maxRecDepth 100000 in
set_option maxHeartbeats 2000000 in
theorem pieces_text (t : Nat) (sv : Value) (rs : List (List UInt8)) (htot : rs.flatten.length ≤ 4096) (hcnt : rs.length ≤ 4096) (w : World) (hT : TextAt t sv rs w) :
    Calls Try.prog 14 #[.pointer (some ⟨t, 0, none⟩)] w fun e w' => e = .returned (.int .i64 rs.length) ∧ Below w.heap.size w w' := by
  refine callsIn_wide (n := 0).1 ?_
  refine callsIn_of_wp_marks Try.func14 rfl trivial ?_ rfl
  simp only [Try.ntmps14, List.size_toArray, List.length_cons, List.length_nil, Nat.reduceAdd, Nat.reduceSub, Array.replicate_succ, Array.replicate_zero, List.push_toArray, List.append_toArray, List.nil_append, List.cons_append]
  gi_wp2_with (gi_at_call 23; refine (callsIn_wide.2 (walk_any _ _)).mono ?_; rintro e w' ⟨rfl, rfl⟩)
  obtain ⟨w1, hw1⟩ : ∃ w1, (w.alloc (.cells #[.int .i64 0] 3)).alloc (.cells #[.pointer (some ⟨t, 0, none⟩)] 22) = w1 := ⟨_, rfl⟩
  have hs1 : w1.heap.size = w.heap.size + 2 := by rw [← hw1]; simp
  have hT1 : Turns Noth w w1 := by rw [← hw1]; exact (Turns.alloc _ _ _).trans (Turns.alloc _ _ _)
  have hB1 : w1.heap[w.heap.size]? = some (.cells #[.int .i64 0] 3) := by rw [← hw1]; exact (Below.heap_alloc _ _ _ (by simp)).trans (World.alloc_heap_new w _)
  have hB2 : w1.heap[w.heap.size + 1]? = some (.cells #[.pointer (some ⟨t, 0, none⟩)] 22) := by rw [← hw1]; have := World.alloc_heap_new (w.alloc (.cells #[.int .i64 0] 3)) (.cells #[.pointer (some ⟨t, 0, none⟩)] 22); rwa [World.size_alloc] at this
  have hRd : Read (w.heap.size + 1) t sv rs w1 := (hT.turns hT1 (fun _ h => h.elim)).read hB2
  rw [hw1]
  refine wp_range (gf := 37) (lb := #[.pointer (some ⟨w.heap.size + 1, 0, none⟩)]) rfl (enters_of Try.func37 (by kernel_rfl) rfl) (walk1_gives (w.heap.size + 1) t sv rs htot hcnt) (fun _ => rfl)
    (fun i X W => Base w1 (fun k => k = w.heap.size) X W ∧ W.heap[w.heap.size]? = some (.cells #[.int .i64 i] 3))
    (fun _ _ _ _ => False)
    (fun a' i X W => (Base w1 (fun k => k = w.heap.size) X W ∧ W.heap[w.heap.size]? = some (.cells #[.int .i64 i] 3)) ∧
      a' = { tmps := #[.pointer (some ⟨t, 0, none⟩), undef, .int .i64 0, .pointer (some ⟨w.heap.size, 0, none⟩), .pointer (some ⟨t, 0, none⟩), .func (.func 37) #[] #[.pointer (some ⟨w.heap.size + 1, 0, none⟩)], .int .i64 (start rs i), .agg #[.string (pc rs i)], undef, undef, undef], defers := [] })
    (steady_box (by omega) _) (fun _ => steady_never) (fun a' => (steady_box (by omega) _).and (fun _ _ _ _ _ h _ _ => h)) ?hR ⟨Base.start _ _, hB1⟩ ?assign ?body ?done ?stop
  case hR =>
    rintro i X W ⟨hb, _⟩
    exact hRd.turns hb.turns (by omega) (by have := hT.lt; omega) (fun g hg => by have := (hT.row.lt g hg).2; omega)
  case assign =>
    rintro l i X W K hi ⟨hb, hc⟩ hK
    unfold encRun
    gi_wp2
    exact hK _ _ (Keeps.refl _ _) ⟨⟨hb, hc⟩, by simp⟩
  case body =>
    rintro l i X a' W hi ⟨⟨hb, hc⟩, rfl⟩
    have hc0 : W.cell? ⟨w.heap.size, 0, none⟩ = some (.int .i64 i) := by rw [Lib.cell_of_heap hc]; rfl
    have hf0 : W.frozen? ⟨w.heap.size, 0, none⟩ = false := Lib.frozen_of_heap hc 0
    gi_wp2
    refine ⟨Keeps.set W (fun h => by have := (hb.young _ h).1; simp at this; omega) _, hb.set rfl _, ?_⟩
    exact Boxed.set (.int .i64 ((i : Int) + 1)) (show Boxed W w.heap.size 3 _ from hc)
  case done =>
    rintro D W hD ⟨hb, hc⟩ hK
    have hc0 : W.cell? ⟨w.heap.size, 0, none⟩ = some (.int .i64 rs.length) := by rw [Lib.cell_of_heap hc]; rfl
    gi_wp2
    refine ⟨by simp, .inl ⟨_, _, rfl, run_takeDeferred hK, ?_⟩⟩
    refine ⟨_, results_tmp rfl _ _ _, rfl, ?_⟩
    exact below_end hT1 hb (fun k h => by omega) _
  case stop =>
    rintro D c i W _ _ h _
    exact h.elim

end Go.Proofs.Ytpippmbkdjcbeaa
