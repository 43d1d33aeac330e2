/-
  What is proved here: how wide a cell's text is, at least and at most, as extent tells it.
-/
import Derived.Test.YtkhnfmdhdfpdhaaGrF
namespace Go.Proofs.Ytkhnfmdhdfpdhaa
open Go.RowKit Go.Shelf
attribute [local go_sem] Oper.semAt_some wide_fn wide_depth

theorem info55 : (Try.prog.info? 55).map (·.size) = some 2 := by kernel_rfl
/-- What Masses answers of a cell. -/
theorem cmass_any {t : ByteArray} (h : cellB t = true) (sv : Value) (w : World) (hA : PaAt w (cellPa t sv)) : Calls Try.prog 59 #[paV (cellPa t sv)] w fun e w' => ∃ v, e = .returned (.tuple #[v, .int .i64 0]) ∧ RecAt 6 msL w' v (cm t) ∧ ((cm t = [] ∧ ∃ c, v = .slice none 0 c) ∨ ∃ b o c, v = .slice (some ⟨b, o, none⟩) (cm t).length c ∧ (cm t).length ≤ c ∧ c ≤ 9223372036854775807) ∧ (∀ g, v.ownBlock = some g → g < w'.heap.size) ∧ Below w.heap.size w w' := by
  refine (masses_any _ w hA).mono ?_
  rintro e w' ⟨⟨v, rfl, hv⟩, hb⟩
  rw [cell_chk h] at hv ⊢
  rcases hv with ⟨h, _⟩ | ⟨_, h⟩
  · exact absurd rfl h
  · have hr : RecAt 6 msL w' v (cm t) := rec_of_row msL_len (mss_len _).symm h
    refine ⟨v, rfl, hr, ?_, fun g hg => (h.lt g hg).2, hb⟩
    have hn : num (cellPa t sv).t = (cm t).length := (mss_len _).symm
    rcases h.2 with ⟨rfl, h0⟩ | ⟨g, cap, cur, rfl, _, _, h1, h2, _⟩
    · exact .inl ⟨List.eq_nil_of_length_eq_zero (by omega), 0, rfl⟩
    · exact .inr ⟨g, 0, cap, by rw [hn], by omega, by unfold maxLen at h2; omega⟩

set_option maxRecDepth 100000 in
set_option maxHeartbeats 4000000 in
theorem extent_any (t : ByteArray) (h : cellB t = true) (w : World) : Calls Try.prog 54 #[.string t] w fun e w' => e = .returned (.agg #[.int .i64 (exS (cm t)), .int .i64 (exM (cm t))]) ∧ Below w.heap.size w w' := by
  have hF := cm_flat h
  have hsz := (cell_get h).1
  have hB0 := (Below.refl w.heap.size w).alloc (Nat.le_refl _) (.cells #[.int .i64 0, .int .i64 0] 55)
  have hg2 : (w.alloc (.cells #[.int .i64 0, .int .i64 0] 55)).heap[w.heap.size]? = some (.cells #[.int .i64 0, .int .i64 0] 55) := World.alloc_heap_new w _
  have hs0 : (w.alloc (.cells #[.int .i64 0, .int .i64 0] 55)).heap.size = w.heap.size + 1 := World.size_alloc _ _
  have hce := cell_any t (by omega) (w.alloc (.cells #[.int .i64 0, .int .i64 0] 55))
  have hma := fun sv W hA => cmass_any h sv W hA
  generalize cm t = l at *
  refine callsIn_wide (n := 0).1 ?_
  refine callsIn_of_wp_marks Try.func54 rfl trivial ?_ rfl
  simp only [Try.ntmps54, List.size_toArray, List.length_cons, List.length_nil, Nat.reduceAdd, Nat.reduceSub, Array.replicate_succ, Array.replicate_zero, List.push_toArray, List.append_toArray, List.nil_append, List.cons_append]
  gi_wp2_with (first | (gi_at_call 17; refine (callsIn_wide.2 hce).mono ?_; rintro e w1 ⟨sv, rfl, hA1, b1⟩; have hg21 := (b1.block w.heap.size (by omega)).trans hg2; have hB1 := hB0.trans (b1.mono hB0.size)) | (gi_at_call 59; refine (callsIn_wide.2 (hma sv w1 hA1)).mono ?_; rintro e w2 ⟨v, rfl, hR2, hv, hown, b2⟩; obtain ⟨aa, cap, hvv, _⟩ := hR2.ex; subst hvv; have hg22 := (b2.block w.heap.size (by have := b1.size; omega)).trans hg21; have hB2 := hB1.trans (b2.mono hB1.size)) | (gi_at_call 60; refine (callsIn_wide.2 (words_any _ _ _ _)).mono ?_; rintro e w3 ⟨rfl, rfl⟩))
  have hs2 := b2.size
  have hs1 := b1.size
  obtain ⟨enc, hgv, hrc⟩ := words_gives (w2.heap.size + 1) (.slice aa l.length cap) l hF.1 hv
  obtain ⟨w4, hw4⟩ : ∃ w4, (w2.alloc (.cells #[.int .i64 0] 3)).alloc (.cells #[.slice aa l.length cap] 101) = w4 := ⟨_, rfl⟩
  have hs4 : w4.heap.size = w2.heap.size + 2 := by rw [← hw4]; simp
  have hT4 : Turns Noth w2 w4 := by rw [← hw4]; exact (Turns.alloc _ _ _).trans (Turns.alloc _ _ _)
  have hb5 : w4.heap[w2.heap.size]? = some (.cells #[.int .i64 0] 3) := by rw [← hw4]; exact (Below.heap_alloc _ _ _ (by simp)).trans (World.alloc_heap_new w2 _)
  have hbt : w4.heap[w2.heap.size + 1]? = some (.cells #[.slice aa l.length cap] 101) := by rw [← hw4]; have := World.alloc_heap_new (w2.alloc (.cells #[.int .i64 0] 3)) (.cells #[.slice aa l.length cap] 101); rwa [World.size_alloc] at this
  have hg24 : w4.heap[w.heap.size]? = some (.cells #[.int .i64 0, .int .i64 0] 55) := (hT4.block _ (by omega) (fun h => h)).trans hg22
  have hR4 : RecAt 6 msL w4 (.slice aa l.length cap) l := rec_any hR2 hT4 (fun _ _ h => h)
  have hown4 : ∀ g, (Value.slice aa l.length cap).ownBlock = some g → g < w2.heap.size := hown
  have hB4 : Below w.heap.size w w4 := hB2.trans (hT4.below (by omega) (fun _ h => h.elim))
  have hnat : ∀ (W : World) (u : Value) (f n : Nat), f ≤ n → n ≤ l.length → RecAt 6 msL W u (cut l f n) → Calls Try.prog 61 #[u] W fun e w' => e = .returned (.int .i64 (runN l f (n - f))) ∧ Below W.heap.size W w' := fun W u f n h1 h2 hr => by
    have := gnatural_any u (cut l f n) (by rw [cut_len h2]; have := hF.1; omega) W hr
    rw [cut_nat hF h1 h2] at this
    exact this
  have hall : ∀ W : World, RecAt 6 msL W (.slice aa l.length cap) l → Calls Try.prog 61 #[.slice aa l.length cap] W fun e w' => e = .returned (.int .i64 (exM l)) ∧ Below W.heap.size W w' := fun W hr => by
    have := gnatural_any _ l (by have := hF.1; omega) W hr
    rw [(flat_nat hF).2] at this
    exact this
  have hend := wmk_all l
  have hwl := wds_le l
  rw [hw4]
  clear hma hce hA1 hg2 hg21 hg22 hR2 hv hown hw4
  refine wp_range (gf := 74) (lb := #[.pointer (some ⟨w2.heap.size + 1, 0, none⟩)]) rfl (enters_of Try.func74 (by kernel_rfl) rfl) hgv (fun _ => rfl)
    (fun j X W => Base w4 (fun k => k = w2.heap.size) X W ∧ W.heap[w2.heap.size]? = some (.cells #[.int .i64 (wmk l j)] 3))
    (fun _ _ _ _ => False)
    (fun a' j X W => (Base w4 (fun k => k = w2.heap.size) X W ∧ W.heap[w2.heap.size]? = some (.cells #[.int .i64 (wmk l j)] 3)) ∧
      a' = { tmps := #[.string t, undef, .pointer (some ⟨w.heap.size, 0, none⟩), .slice aa l.length cap, .int .i64 0, .pointer (some ⟨w2.heap.size, 0, none⟩), enc j, .tuple #[.slice aa l.length cap, .int .i64 0], .string t, paV (cellPa t sv), .tuple #[.slice aa l.length cap, .int .i64 0], .slice aa l.length cap, .int .i64 0, .slice aa l.length cap, .func (.func 74) #[] #[.pointer (some ⟨w2.heap.size + 1, 0, none⟩)], enc j, undef, undef, undef, undef, undef, undef, undef, undef], defers := [] })
    (steady_box (by omega) (fun j => .cells #[.int .i64 (wmk l j)] 3)) (fun _ => steady_never) (fun a' => (steady_box (by omega) (fun j => .cells #[.int .i64 (wmk l j)] 3)).and (fun _ _ _ _ _ h _ _ => h)) ?hR ⟨Base.start _ _, hb5⟩ ?assign ?body ?done ?stop
  case hR =>
    rintro i X W ⟨hb, _⟩
    refine ⟨(hb.turns.block _ (by omega) (by omega)).trans hbt, rec_any hR4 hb.turns (fun g hg e => by have := hown4 g hg; omega)⟩
  case assign =>
    rintro lo j X W K hj hI hK
    gi_wp2
    exact hK _ _ (Keeps.refl _ _) ⟨hI, rfl⟩
  case body =>
    rintro lo j X a' W hj ⟨⟨hb, hbx⟩, rfl⟩
    have hRj := rec_any hR4 hb.turns (fun g hg e => by have := hown4 g hg; omega)
    have hcj := hrc W hRj j hj
    have hle := hwl _ (List.getElem_mem hj)
    have hcall := hnat W.drew (enc j) _ _ hle.1 hle.2 (rec_any hcj (Turns.drew Noth W) (fun _ _ h => h))
    have hsz4 := hb.turns.size
    have hlt := (Array.getElem?_eq_some_iff.1 hbx).1
    gi_wp2
    refine ext_r5 _ (fun _ _ _ _ _ h => h) _ _ _ _ _ _ _ _ _ _ _ _ _ _ _ _ _ _ _ _ _ _ _ _ _ _ hbx hcall ?_
    intro V' hV
    gi_wp2
    have hTV : Turns Noth W V' := (Turns.drew Noth W).trans (Turns.of_below hV)
    have hTS := Turns.setCell (X := fun k => k = w2.heap.size) V' (p := ⟨w2.heap.size, 0, none⟩) rfl (.int .i64 (max (wmk l j) (runN l (wds l)[j].1 ((wds l)[j].2 - (wds l)[j].1))))
    have hbV : V'.heap[w2.heap.size]? = some (.cells #[.int .i64 (wmk l j)] 3) := (hTV.block _ hlt (fun h => h)).trans hbx
    refine ⟨(Keeps.of_turns hTV (fun _ _ h => h)).trans (Keeps.of_turns hTS (fun k hk e => by have := hb.young k hk; omega)), ⟨?_, ?_⟩, ?_⟩
    · exact hb.turns.trans ((hTV.mono (fun _ h => h.elim)).trans hTS)
    · intro k hk
      have := hb.young k hk
      have := hTV.size
      have := hTS.size
      omega
    · rw [wmk_succ hj]
      exact heap_setCell_same V' w2.heap.size 0 _ 3 _ hbV
  case done =>
    rintro D W hD ⟨hb, hbx⟩ hK
    rw [hend] at hbx
    have hlt2 : w.heap.size < w4.heap.size := by omega
    have hgW : W.heap[w.heap.size]? = some (.cells #[.int .i64 0, .int .i64 0] 55) := (hb.turns.block _ hlt2 (by omega)).trans hg24
    have hRW := rec_any hR4 hb.turns (fun g hg e => by have := hown4 g hg; omega)
    have hcall := hall W.drew (rec_any hRW (Turns.drew Noth W) (fun _ _ h => h))
    have hlt := (Array.getElem?_eq_some_iff.1 hgW).1
    have hsz4 := hb.turns.size
    gi_wp2
    refine ext_r6 _ _ _ _ _ _ _ _ _ _ _ _ _ _ _ _ _ _ _ _ _ _ _ _ _ _ _ _ _ hbx hgW hcall ?_
    intro V' hV
    have hTV : Turns Noth W V' := (Turns.drew Noth W).trans (Turns.of_below hV)
    have hgV : V'.heap[w.heap.size]? = some (.cells #[.int .i64 0, .int .i64 0] 55) := (hTV.block _ hlt (fun h => h)).trans hgW
    have hT1 := Turns.setCell (X := fun k => k = w.heap.size) V' (p := ⟨w.heap.size, 0, none⟩) rfl (.int .i64 (exS l))
    have hT2 := Turns.setCell (X := fun k => k = w.heap.size) (V'.setCell ⟨w.heap.size, 0, none⟩ (.int .i64 (exS l))) (p := ⟨w.heap.size, 1, none⟩) rfl (.int .i64 (exM l))
    have hg5 : ((V'.setCell ⟨w.heap.size, 0, none⟩ (.int .i64 (exS l))).setCell ⟨w.heap.size, 1, none⟩ (.int .i64 (exM l))).heap[w.heap.size]? = some (.cells #[.int .i64 (exS l), .int .i64 (exM l)] 55) :=
      heap_setCell_same (V'.setCell ⟨w.heap.size, 0, none⟩ (.int .i64 (exS l))) w.heap.size 1 _ 55 _ (heap_setCell_same V' w.heap.size 0 _ 55 _ hgV)
    have hTX : Turns (fun k => k = w.heap.size) W ((V'.setCell ⟨w.heap.size, 0, none⟩ (.int .i64 (exS l))).setCell ⟨w.heap.size, 1, none⟩ (.int .i64 (exM l))) := (hTV.mono (fun _ h => h.elim)).trans (hT1.trans hT2)
    have hKD := (hTX.block D (Array.getElem?_eq_some_iff.1 hK).1 (by omega)).trans hK
    generalize (V'.setCell ⟨w.heap.size, 0, none⟩ (.int .i64 (exS l))).setCell ⟨w.heap.size, 1, none⟩ (.int .i64 (exM l)) = Z at *
    clear hbx hgW hgV hV hT1 hT2 hTV
    gi_wp2
    refine ⟨by simp, .inl ⟨_, _, rfl, run_takeDeferred hKD, ?_⟩⟩
    have hBW : Below w.heap.size w W := hB4.trans (hb.turns.below (by omega) (fun k hk => by omega))
    have hBZ : Below w.heap.size w Z := hBW.trans (hTX.below hBW.size (fun k hk => by omega))
    refine ⟨_, results_cell_row rfl _ _ w.heap.size 55 #[.int .i64 (exS l), .int .i64 (exM l)] (0, 0) _ rfl ((World.putObj_heap_other (by omega)).trans hg5) Try.underlying55 rfl info55, rfl, ?_⟩
    exact hBZ.trans ((Turns.putObj (X := fun k => k = D) Z rfl _).below hBZ.size (fun k hk => by omega))
  case stop =>
    rintro D c i W _ _ h _
    exact h.elim
end Go.Proofs.Ytkhnfmdhdfpdhaa
