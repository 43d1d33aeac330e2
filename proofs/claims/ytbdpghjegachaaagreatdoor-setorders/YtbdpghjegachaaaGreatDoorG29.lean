/-
  What is proved here: what Items of item answers of any paragraph.
  What is proved here: one record more behind a row of one's own, and what else turns.
  What is proved here: where the Penalties of a paragraph stand, as penalties of set tells it.
  What is proved here: where slices.BinarySearch finds a number among numbers that rise.
  What is proved here: the four ways to align; a drop capital, how wide it is, its glyph; how wide a hyphen is.
-/
import Derived.Test.YtbdpghjegachaaaGreatDoorG28
import Derived.Test.YtbdpghjegachaaaGreatDoorG7
import Derived.Test.YtbdpghjegachaaaGreatDoorG3
import Derived.Test.YtbdpghjegachaaaGreatDoorG1
import Derived.Test.YtbdpghjegachaaaGreatDoorG27
namespace Go.Proofs.YtbdpghjegachaaaGreatDoor
open Go.RowKit Go.Shelf

set_option maxRecDepth 100000 in
set_option maxHeartbeats 2000000 in
theorem items_no (a : Pa) (w : World) (hA : PaAt w a) (h : chkI a ≠ 0) : Calls Tryz.prog 99 #[paV a] w (ItemsEnd a w) := by
  have hB := (Below.refl w.heap.size w).alloc (Nat.le_refl _) (Obj.cells (paC a) 27)
  have hP := PB.new w a
  have hs := masses_any a _ (hA.below hB (Nat.le_refl _))
  have hE : Hid (∀ W, Below w.heap.size w W → ItemsEnd a w (.returned (.tuple #[.slice none 0 0, .int .i64 (chkI a)])) W) := fun W hW => ⟨⟨_, rfl, .inl ⟨h, rfl⟩⟩, hW⟩
  unfold MassEnd at hs
  unfold paV at hs ⊢
  have h' : (chkI a == 0) = false := by simpa using h
  have hs' : Hid (Calls Tryz.prog 20 #[.agg (paC a)] (w.alloc (.cells (paC a) 27)) fun e w' => (∃ v, e = .returned (.tuple #[v, .int .i64 (chkI a)]) ∧ v = .slice none 0 0) ∧ Below w.heap.size w w') := by
    refine hs.mono ?_
    rintro e w' ⟨⟨v, rfl, hv⟩, hb⟩
    refine ⟨⟨v, rfl, ?_⟩, hB.trans (hb.mono hB.size)⟩
    rcases hv with ⟨_, h1⟩ | ⟨h1, _⟩
    · exact h1
    · exact absurd h1 h
  clear hs h
  generalize chkI a = n at *
  generalize hw1 : w.alloc (.cells (paC a) 27) = w1 at *
  go_enter Tryz.func99, Tryz.ntmps99
  go_wp2_with (first | (refine wpList_load_row rfl 27 _ rfl w.heap.size rfl 27 _ (0, 0) _ hP.row Tryz.underlying27 rfl (info34 a) ?_) | (go_at_call 20; refine hs'.out.mono ?_; rintro e w' ⟨⟨v, rfl, rfl⟩, hb2⟩))
  go_ret2
  exact hE.out _ hb2

theorem rec_some {α : Type} {k : Nat} {f : α → List Value} {W : World} {a : Option Addr} {n c : Nat} {l : List α} (h : RecAt k f W (.slice a n c) l) (hl : 0 < l.length) : ∃ g o, a = some ⟨g, o, none⟩ ∧ g < W.heap.size ∧ ∀ i (hi : i < l.length) (j : Nat) u, (f l[i])[j]? = some u → W.cell? ⟨g, o + i * k + j, none⟩ = some u := by
  obtain ⟨a0, cap0, h1, h2⟩ := h.ex
  cases h1
  rcases h2 with h2 | ⟨b, o, e, hb, hc⟩
  · rw [h2] at hl; cases hl
  · exact ⟨b, o, e, hb, hc⟩
theorem drop_both {W : World} {g o n cap : Nat} {l : List Ms} (h : RecAt 6 msL W (.slice (some ⟨g, o, none⟩) n cap) l) (hl : 0 < l.length) : ∃ a', (∀ W : World, (Instr.slice 48 (.slice (some ⟨g, o, none⟩) n cap) (some (.int .i64 1)) none none).run Tryz.prog W = .ok (.slice a' (n - 1) (cap - 1)) W) ∧ RecAt 6 msL W (.slice a' (n - 1) (cap - 1)) (l.drop 1) ∧ ∃ o', a' = some ⟨g, o', none⟩ := by
  have hle := h.le _ _ _ rfl
  have hn : n = l.length := by
    obtain ⟨a0, c0, e, _⟩ := h.ex
    cases e; rfl
  obtain ⟨a', h1, h2, h3⟩ := drop_rec (g := g) (o := o) (show 0 < n by omega) hle
  exact ⟨a', h1, drop_at h h2, h3⟩
theorem rowlt {w : World} {base : Nat} {t : TypeId} {sz : Nat} {a : Option Addr} {n c : Nat} {xs : List Value} (h : w.ownsRow base t sz (.slice a n c) n xs) {g o : Nat} (e : a = some ⟨g, o, none⟩) : g < w.heap.size := by
  subst e
  have hl := h.lt
  rcases h.2 with ⟨h1, _⟩ | ⟨g', cap, cur, h1, _⟩
  · cases h1
  · cases h1; exact (hl g rfl).2
set_option maxRecDepth 100000 in
set_option maxHeartbeats 8000000 in
theorem items_A (a : Pa) (w : World) (hA : PaAt w a) (htb : Hy.Tab w) (h : chkI a = 0) (h14 : ¬ 2 ≤ a.p.p14) : Calls Tryz.prog 99 #[paV a] w (ItemsEnd a w) := by
  have hB := (Below.refl w.heap.size w).alloc (Nat.le_refl _) (Obj.cells (paC a) 27)
  have hP := PB.new w a
  have hG := good_of h
  have hbl : Hid (bodyL a = mss a) := if_neg (fun h => h14 h.1)
  have q1 : decide (2 ≤ a.p.p14) = false := decide_eq_false h14
  have hs := masses_any a _ (hA.below hB (Nat.le_refl _))
  have hE : Hid (∀ W v, W.ownsRow w.heap.size 129 8 v (itemsOf a).length ((itemsOf a).flatMap itL) → FillI W v → Below w.heap.size w W → ItemsEnd a w (.returned (.tuple #[v, .int .i64 0])) W) := fun W v hv hf hW => ⟨⟨_, by rw [h], .inr ⟨h, hv, hf⟩⟩, hW⟩
  unfold MassEnd at hs
  unfold paV at hs ⊢
  rw [h] at hs
  have hs' : Hid (Calls Tryz.prog 20 #[.agg (paC a)] (w.alloc (.cells (paC a) 27)) fun e w' => ∃ v, e = .returned (.tuple #[v, .int .i64 0]) ∧ w'.ownsRow (w.alloc (.cells (paC a) 27)).heap.size 53 6 v (num a.t) ((mss a).flatMap msL) ∧ Below (w.alloc (.cells (paC a) 27)).heap.size (w.alloc (.cells (paC a) 27)) w') := by
    refine hs.mono ?_
    rintro e w' ⟨⟨v, rfl, hv⟩, hb⟩
    refine ⟨v, rfl, ?_, hb⟩
    rcases hv with ⟨h1, _⟩ | ⟨_, h1⟩
    · exact absurd rfl h1
    · exact h1
  clear hs h
  have hsz1 : Hid ((w.alloc (.cells (paC a) 27)).heap.size = w.heap.size + 1) := World.size_alloc _ _
  generalize hw1 : w.alloc (.cells (paC a) 27) = w1 at *
  refine (callsIn_wide (n := 0)).1 ?_
  refine callsIn_of_wp_marks Tryz.func99 rfl trivial ?_ rfl
  simp only [Tryz.ntmps99, List.size_toArray, List.length_cons, List.length_nil, Nat.reduceAdd, Nat.reduceSub, Array.replicate_succ, Array.replicate_zero, List.push_toArray, List.append_toArray, List.nil_append, List.cons_append]
  refine wpIn_wide.2 ?_
  go_wp2_with (first | (refine wpList_load_row rfl 27 _ rfl w.heap.size rfl 27 _ (0, 0) _ hP.row Tryz.underlying27 rfl (info34 a) ?_) | (go_at_call 20; refine hs'.out.mono ?_; rintro e w2 ⟨v, rfl, hown, hb2⟩; obtain ⟨av, cv, rfl⟩ := Hy.row_val hown; have hP2 := hP.below hb2 hP.lt; have c16 : w2.cell? ⟨w.heap.size, 16, none⟩ = some (.int .i64 a.p.p14) := hP2.cell rfl; have hB2 : Below w.heap.size w w2 := hB.trans (hb2.mono hB.size); have hrec := rec_of_row msL_len (mss_len a).symm hown; have hown0 := hown))
  rename_i K hK
  refine items_tail (ItemsEnd a w) K hK 6 "item.go:35" a w.heap.size _ _ _ w w2 (by rw [hbl.out, mss_len]) hB2 hP2 (Nat.le_refl _) (by rw [hbl.out]; exact hrec) (fun g0 o0 e => rowlt hown0 e) (htb.below hB2) hG hE.out
set_option maxRecDepth 100000 in
set_option maxHeartbeats 8000000 in
theorem items_B (a : Pa) (w : World) (hA : PaAt w a) (htb : Hy.Tab w) (h : chkI a = 0) (h14 : 2 ≤ a.p.p14) (hn0 : num a.t = 0) : Calls Tryz.prog 99 #[paV a] w (ItemsEnd a w) := by
  have hB := (Below.refl w.heap.size w).alloc (Nat.le_refl _) (Obj.cells (paC a) 27)
  have hP := PB.new w a
  have hG := good_of h
  have hbl : Hid (bodyL a = mss a) := if_neg (fun h => by have := h.2.1; rw [mss_len] at this; omega)
  have q1 : decide (2 ≤ a.p.p14) = true := decide_eq_true h14
  have q2 : decide (0 < num a.t) = false := decide_eq_false (by omega)
  clear hn0
  have hs := masses_any a _ (hA.below hB (Nat.le_refl _))
  have hE : Hid (∀ W v, W.ownsRow w.heap.size 129 8 v (itemsOf a).length ((itemsOf a).flatMap itL) → FillI W v → Below w.heap.size w W → ItemsEnd a w (.returned (.tuple #[v, .int .i64 0])) W) := fun W v hv hf hW => ⟨⟨_, by rw [h], .inr ⟨h, hv, hf⟩⟩, hW⟩
  unfold MassEnd at hs
  unfold paV at hs ⊢
  rw [h] at hs
  have hs' : Hid (Calls Tryz.prog 20 #[.agg (paC a)] (w.alloc (.cells (paC a) 27)) fun e w' => ∃ v, e = .returned (.tuple #[v, .int .i64 0]) ∧ w'.ownsRow (w.alloc (.cells (paC a) 27)).heap.size 53 6 v (num a.t) ((mss a).flatMap msL) ∧ Below (w.alloc (.cells (paC a) 27)).heap.size (w.alloc (.cells (paC a) 27)) w') := by
    refine hs.mono ?_
    rintro e w' ⟨⟨v, rfl, hv⟩, hb⟩
    refine ⟨v, rfl, ?_, hb⟩
    rcases hv with ⟨h1, _⟩ | ⟨_, h1⟩
    · exact absurd rfl h1
    · exact h1
  clear hs h
  have hsz1 : Hid ((w.alloc (.cells (paC a) 27)).heap.size = w.heap.size + 1) := World.size_alloc _ _
  generalize hw1 : w.alloc (.cells (paC a) 27) = w1 at *
  refine (callsIn_wide (n := 0)).1 ?_
  refine callsIn_of_wp_marks Tryz.func99 rfl trivial ?_ rfl
  simp only [Tryz.ntmps99, List.size_toArray, List.length_cons, List.length_nil, Nat.reduceAdd, Nat.reduceSub, Array.replicate_succ, Array.replicate_zero, List.push_toArray, List.append_toArray, List.nil_append, List.cons_append]
  refine wpIn_wide.2 ?_
  go_wp2_with (first | (refine wpList_load_row rfl 27 _ rfl w.heap.size rfl 27 _ (0, 0) _ hP.row Tryz.underlying27 rfl (info34 a) ?_) | (go_at_call 20; refine hs'.out.mono ?_; rintro e w2 ⟨v, rfl, hown, hb2⟩; obtain ⟨av, cv, rfl⟩ := Hy.row_val hown; have hP2 := hP.below hb2 hP.lt; have c16 : w2.cell? ⟨w.heap.size, 16, none⟩ = some (.int .i64 a.p.p14) := hP2.cell rfl; have hB2 : Below w.heap.size w w2 := hB.trans (hb2.mono hB.size); have hrec := rec_of_row msL_len (mss_len a).symm hown; have hown0 := hown))
  rename_i K hK
  refine items_tail (ItemsEnd a w) K hK 6 "item.go:35" a w.heap.size _ _ _ w w2 (by rw [hbl.out, mss_len]) hB2 hP2 (Nat.le_refl _) (by rw [hbl.out]; exact hrec) (fun g0 o0 e => rowlt hown0 e) (htb.below hB2) hG hE.out
set_option maxRecDepth 100000 in
set_option maxHeartbeats 8000000 in
theorem items_C (a : Pa) (w : World) (hA : PaAt w a) (htb : Hy.Tab w) (h : chkI a = 0) (h14 : 2 ≤ a.p.p14) (hn0 : 0 < num a.t) (hk : (mAt (mss a) 0).k ≠ 1) : Calls Tryz.prog 99 #[paV a] w (ItemsEnd a w) := by
  have hB := (Below.refl w.heap.size w).alloc (Nat.le_refl _) (Obj.cells (paC a) 27)
  have hP := PB.new w a
  have hG := good_of h
  have hbl : Hid (bodyL a = mss a) := if_neg (fun h => hk h.2.2)
  have q1 : decide (2 ≤ a.p.p14) = true := decide_eq_true h14
  have q2 : decide (0 < num a.t) = true := decide_eq_true hn0
  have q3 : ((mAt (mss a) 0).k == 1) = false := by simpa using hk
  have hs := masses_any a _ (hA.below hB (Nat.le_refl _))
  have hE : Hid (∀ W v, W.ownsRow w.heap.size 129 8 v (itemsOf a).length ((itemsOf a).flatMap itL) → FillI W v → Below w.heap.size w W → ItemsEnd a w (.returned (.tuple #[v, .int .i64 0])) W) := fun W v hv hf hW => ⟨⟨_, by rw [h], .inr ⟨h, hv, hf⟩⟩, hW⟩
  unfold MassEnd at hs
  unfold paV at hs ⊢
  rw [h] at hs
  have hs' : Hid (Calls Tryz.prog 20 #[.agg (paC a)] (w.alloc (.cells (paC a) 27)) fun e w' => ∃ v, e = .returned (.tuple #[v, .int .i64 0]) ∧ w'.ownsRow (w.alloc (.cells (paC a) 27)).heap.size 53 6 v (num a.t) ((mss a).flatMap msL) ∧ Below (w.alloc (.cells (paC a) 27)).heap.size (w.alloc (.cells (paC a) 27)) w') := by
    refine hs.mono ?_
    rintro e w' ⟨⟨v, rfl, hv⟩, hb⟩
    refine ⟨v, rfl, ?_, hb⟩
    rcases hv with ⟨h1, _⟩ | ⟨_, h1⟩
    · exact absurd rfl h1
    · exact h1
  clear hs h
  have hsz1 : Hid ((w.alloc (.cells (paC a) 27)).heap.size = w.heap.size + 1) := World.size_alloc _ _
  generalize hw1 : w.alloc (.cells (paC a) 27) = w1 at *
  refine (callsIn_wide (n := 0)).1 ?_
  refine callsIn_of_wp_marks Tryz.func99 rfl trivial ?_ rfl
  simp only [Tryz.ntmps99, List.size_toArray, List.length_cons, List.length_nil, Nat.reduceAdd, Nat.reduceSub, Array.replicate_succ, Array.replicate_zero, List.push_toArray, List.append_toArray, List.nil_append, List.cons_append]
  refine wpIn_wide.2 ?_
  go_wp2_with (first | (refine wpList_load_row rfl 27 _ rfl w.heap.size rfl 27 _ (0, 0) _ hP.row Tryz.underlying27 rfl (info34 a) ?_) | (go_at_call 20; refine hs'.out.mono ?_; rintro e w2 ⟨v, rfl, hown, hb2⟩; obtain ⟨av, cv, rfl⟩ := Hy.row_val hown; have hP2 := hP.below hb2 hP.lt; have c16 : w2.cell? ⟨w.heap.size, 16, none⟩ = some (.int .i64 a.p.p14) := hP2.cell rfl; have hB2 : Below w.heap.size w w2 := hB.trans (hb2.mono hB.size); have hrec := rec_of_row msL_len (mss_len a).symm hown; have hown0 := hown; obtain ⟨g, o, rfl, hlt, hc⟩ := rec_some hrec (by rw [mss_len]; exact hn0); have hcap := hrec.le _ _ _ rfl; have hc2 : w2.cell? ⟨g, o + 2, none⟩ = some (.int .i64 (mAt (mss a) 0).k) := (by have := hc 0 (by rw [mss_len]; exact hn0) 2 _ rfl; rw [Nat.zero_mul, Nat.add_zero] at this; rw [this, mAt_is (by rw [mss_len]; exact hn0)])))
  rename_i K hK
  refine items_tail (ItemsEnd a w) K hK 6 "item.go:35" a w.heap.size _ _ _ w w2 (by rw [hbl.out, mss_len]) hB2 hP2 (Nat.le_refl _) (by rw [hbl.out]; exact hrec) (fun g0 o0 e => rowlt hown0 e) (htb.below hB2) hG hE.out
set_option maxRecDepth 100000 in
set_option maxHeartbeats 8000000 in
theorem items_D (a : Pa) (w : World) (hA : PaAt w a) (htb : Hy.Tab w) (h : chkI a = 0) (h14 : 2 ≤ a.p.p14) (hn0 : 0 < num a.t) (hk : (mAt (mss a) 0).k = 1) : Calls Tryz.prog 99 #[paV a] w (ItemsEnd a w) := by
  have hB := (Below.refl w.heap.size w).alloc (Nat.le_refl _) (Obj.cells (paC a) 27)
  have hP := PB.new w a
  have hG := good_of h
  have hbl : Hid (bodyL a = (mss a).drop 1) := if_pos ⟨h14, by rw [mss_len]; exact hn0, hk⟩
  have q1 : decide (2 ≤ a.p.p14) = true := decide_eq_true h14
  have q2 : decide (0 < num a.t) = true := decide_eq_true hn0
  have q3 : ((mAt (mss a) 0).k == 1) = true := by rw [hk]; rfl
  have hlen : Hid (0 < (mss a).length) := by show _ < _; rw [mss_len]; exact hn0
  have hs := masses_any a _ (hA.below hB (Nat.le_refl _))
  have hE : Hid (∀ W v, W.ownsRow w.heap.size 129 8 v (itemsOf a).length ((itemsOf a).flatMap itL) → FillI W v → Below w.heap.size w W → ItemsEnd a w (.returned (.tuple #[v, .int .i64 0])) W) := fun W v hv hf hW => ⟨⟨_, by rw [h], .inr ⟨h, hv, hf⟩⟩, hW⟩
  unfold MassEnd at hs
  unfold paV at hs ⊢
  rw [h] at hs
  have hs' : Hid (Calls Tryz.prog 20 #[.agg (paC a)] (w.alloc (.cells (paC a) 27)) fun e w' => ∃ v, e = .returned (.tuple #[v, .int .i64 0]) ∧ w'.ownsRow (w.alloc (.cells (paC a) 27)).heap.size 53 6 v (num a.t) ((mss a).flatMap msL) ∧ Below (w.alloc (.cells (paC a) 27)).heap.size (w.alloc (.cells (paC a) 27)) w') := by
    refine hs.mono ?_
    rintro e w' ⟨⟨v, rfl, hv⟩, hb⟩
    refine ⟨v, rfl, ?_, hb⟩
    rcases hv with ⟨h1, _⟩ | ⟨_, h1⟩
    · exact absurd rfl h1
    · exact h1
  clear hs h
  have hsz1 : Hid ((w.alloc (.cells (paC a) 27)).heap.size = w.heap.size + 1) := World.size_alloc _ _
  generalize hw1 : w.alloc (.cells (paC a) 27) = w1 at *
  refine (callsIn_wide (n := 0)).1 ?_
  refine callsIn_of_wp_marks Tryz.func99 rfl trivial ?_ rfl
  simp only [Tryz.ntmps99, List.size_toArray, List.length_cons, List.length_nil, Nat.reduceAdd, Nat.reduceSub, Array.replicate_succ, Array.replicate_zero, List.push_toArray, List.append_toArray, List.nil_append, List.cons_append]
  refine wpIn_wide.2 ?_
  go_wp2_with (first | (refine wpList_load_row rfl 27 _ rfl w.heap.size rfl 27 _ (0, 0) _ hP.row Tryz.underlying27 rfl (info34 a) ?_) | (go_at_call 20; refine hs'.out.mono ?_; rintro e w2 ⟨v, rfl, hown, hb2⟩; obtain ⟨av, cv, rfl⟩ := Hy.row_val hown; have hP2 := hP.below hb2 hP.lt; have c16 : w2.cell? ⟨w.heap.size, 16, none⟩ = some (.int .i64 a.p.p14) := hP2.cell rfl; have hB2 : Below w.heap.size w w2 := hB.trans (hb2.mono hB.size); have hrec := rec_of_row msL_len (mss_len a).symm hown; have hown0 := hown; obtain ⟨g, o, rfl, hlt, hc⟩ := rec_some hrec (by rw [mss_len]; exact hn0); have hcap := hrec.le _ _ _ rfl; have hc2 : w2.cell? ⟨g, o + 2, none⟩ = some (.int .i64 (mAt (mss a) 0).k) := (by have := hc 0 (by rw [mss_len]; exact hn0) 2 _ rfl; rw [Nat.zero_mul, Nat.add_zero] at this; rw [this, mAt_is (by rw [mss_len]; exact hn0)]); obtain ⟨a', hsl, hdr, hag⟩ := drop_both hrec hlen.out))
  rename_i K hK
  refine items_tail (ItemsEnd a w) K hK 6 "item.go:35" a w.heap.size _ _ _ w w2 (by rw [hbl.out, List.length_drop, mss_len]) hB2 hP2 (Nat.le_refl _) (by rw [hbl.out]; exact hdr) (fun g0 o0 e => by rw [e] at hag; obtain ⟨o', h⟩ := hag; cases h; exact hlt) (htb.below hB2) hG hE.out

theorem items_all (a : Pa) (w : World) (hA : PaAt w a) (htb : Hy.Tab w) : Calls Tryz.prog 99 #[paV a] w (ItemsEnd a w) := by
  by_cases h : chkI a = 0
  · by_cases h14 : 2 ≤ a.p.p14
    · by_cases hn : num a.t = 0
      · exact items_B a w hA htb h h14 hn
      · by_cases hk : (mAt (mss a) 0).k = 1
        · exact items_D a w hA htb h h14 (by omega) hk
        · exact items_C a w hA htb h h14 (by omega) hk
    · exact items_A a w hA htb h h14
  · exact items_no a w hA h
end Go.Proofs.YtbdpghjegachaaaGreatDoor

namespace Go.Proofs.YtbdpghjegachaaaGreatDoor
open Go.RowKit Go.Shelf

/-- An element's type as append asks for it. -/
def ElOk (t e : TypeId) (k bytes : Nat) : Prop := Tryz.prog.underlying t = some (.slice e) ∧ ∃ i z, Tryz.prog.info? e = some i ∧ i.zero = some z ∧ i.size = k ∧ i.bytes = bytes ∧ z.cells.size = k
theorem ElOk.of {t e : TypeId} {k bytes : Nat} (hu : Tryz.prog.underlying t = some (.slice e)) (h : (Tryz.prog.info? e).map (fun i => (i.zero.map (fun z => z.cells.size), i.size, i.bytes)) = some (some k, k, bytes)) : ElOk t e k bytes := by
  refine ⟨hu, ?_⟩
  cases hi : Tryz.prog.info? e with
  | none => rw [hi] at h; cases h
  | some i =>
    rw [hi] at h
    simp only [Option.map_some, Option.some.injEq, Prod.mk.injEq] at h
    obtain ⟨h1, h2, h3⟩ := h
    cases hz : i.zero with
    | none => rw [hz] at h1; cases h1
    | some z => rw [hz] at h1; exact ⟨i, z, rfl, hz, h2, h3, by simpa using h1⟩
section
variable {α : Type} {k : Nat} {f : α → List Value}
theorem row_newS (hf : ∀ a, (f a).length = k) (w : World) (base : Nat) (hb : base ≤ w.heap.size) (e : TypeId) (x : α) : (w.alloc (.cells (f x).toArray e)).ownsRow base e k (.slice (some ⟨w.heap.size, 0, none⟩) 1 1) [x].length ([x].flatMap f) := by
  refine ⟨by simp [hf], .inr ⟨w.heap.size, 1, (f x).toArray, rfl, hb, World.alloc_heap_new w _, Nat.le_refl _, by unfold maxLen; omega, by simp [hf], ?_⟩⟩
  simp
  exact List.take_of_length_le (by rw [hf]; exact Nat.le_refl _)
theorem rec_cells (_hf : ∀ a, (f a).length = k) (W : World) (e : TypeId) (p : α) : ∀ j u, (f p)[j]? = some u → (W.alloc (.cells (f p).toArray e)).cell? ((⟨W.heap.size, 0, none⟩ : Addr).add j) = some u := fun j u hu => by
  rw [addr_add0, Lib.cell_of_heap (World.alloc_heap_new W _)]
  simpa using hu
/-- One record more is appended: nothing turns but the row's own block. -/
theorem wp_app2 {oi : Oper} {a : Act} {w w0 : World} {K : Act → World → Prop} {Q : Exit → Act → World → Prop} {t e : TypeId} {bytes : Nat} (hE : ElOk t e k bytes) (hf : ∀ a, (f a).length = k) (hone : ∀ p, ∀ u ∈ f p, u.oneCell' = true) (hk : 0 < k) (hby : bytes ≤ 1000)
    (x y : Operand) (ho : oi.op = Op.call { callee := Callee.builtin Builtin.append, args := #[x, y], argTypes := #[t, t] }) (base : Nat) (v : Value) (qs : List α) (p : α) (hx : a.eval x = v)
    (hown : w0.ownsRow base e k v qs.length (qs.flatMap f)) (hb : base ≤ w0.heap.size) (hn : qs.length ≤ 9000) (hy : a.eval y = .slice (some ⟨w0.heap.size, 0, none⟩) 1 1) (hw : w = w0.alloc (.cells (f p).toArray e))
    (h : ∀ v' w', w'.ownsRow base e k v' (qs ++ [p]).length ((qs ++ [p]).flatMap f) → Turns (fun g => v.ownBlock = some g) w0 w' → (v'.ownBlock = v.ownBlock ∨ ∀ g, v'.ownBlock = some g → w0.heap.size ≤ g) → K (a.put oi.dst v') w') : oi.wp Tryz.prog a w K Q := by
  subst hw
  obtain ⟨hu, i, z, hi, hz0, hz1, hz2, hz3⟩ := hE
  have hbb : (qs.length + 1) * bytes ≤ 140737488355328 := Nat.le_trans (Nat.mul_le_mul (show qs.length + 1 ≤ 9001 by omega) hby) (by decide)
  obtain ⟨v', w', hrun, r1, r2, r3⟩ := run_append_where (P := Tryz.prog) (w0.alloc (.cells (f p).toArray e)) base t oi.type e i z k bytes hu hi hz0 hz1 hz2 hz3 hk v qs.length (qs.flatMap f) (hown.alloc _) ⟨w0.heap.size, 0, none⟩ 1 1 (f p) (by rw [hf]; omega) (rec_cells hf w0 e p) (hone p) (by unfold maxLen; omega) hbb (by simp; omega)
  have e1 : [p].flatMap f = f p := by simp
  have hT : Turns (fun g => v.ownBlock = some g) w0 w' := (Turns.alloc _ w0 _).trans ⟨r2.os, r2.tape, r2.output, r2.size, fun j hj hX => r2.block j hj (fun e => hX e.symm)⟩
  have hK := h v' w' (by rw [List.length_append, List.flatMap_append, e1]; exact r1) hT (r3.imp id fun h g hg => by have := h g hg; simp at this; omega)
  unfold Oper.wp
  simp [execOp, ho, resolve, invoke, builtin, hx, hy, hrun, Result.andThen]
  exact hK
theorem wpList_app2 {ops : Array Oper} {rest : List Oper} {oi : Oper} {a : Act} {w w0 : World} {Q : Exit → Act → World → Prop} {t e : TypeId} {bytes : Nat} (hgd : oi.guard = none) (hE : ElOk t e k bytes) (hf : ∀ a, (f a).length = k) (hone : ∀ p, ∀ u ∈ f p, u.oneCell' = true) (hk : 0 < k) (hby : bytes ≤ 1000)
    (x y : Operand) (ho : oi.op = Op.call { callee := Callee.builtin Builtin.append, args := #[x, y], argTypes := #[t, t] }) (base : Nat) (v : Value) (qs : List α) (p : α) (hx : a.eval x = v)
    (hown : w0.ownsRow base e k v qs.length (qs.flatMap f)) (hb : base ≤ w0.heap.size) (hn : qs.length ≤ 9000) (hy : a.eval y = .slice (some ⟨w0.heap.size, 0, none⟩) 1 1) (hw : w = w0.alloc (.cells (f p).toArray e))
    (h : ∀ v' w', w'.ownsRow base e k v' (qs ++ [p]).length ((qs ++ [p]).flatMap f) → Turns (fun g => v.ownBlock = some g) w0 w' → (v'.ownBlock = v.ownBlock ∨ ∀ g, v'.ownBlock = some g → w0.heap.size ≤ g) → wpList Tryz.prog ops Q rest (a.put oi.dst v') w') : wpList Tryz.prog ops Q (oi :: rest) a w :=
  wpList_plain hgd fun _ hK => wp_app2 hE hf hone hk hby x y ho base v qs p hx hown hb hn hy hw fun v' w' h1 h2 h3 => hK _ _ (h v' w' h1 h2 h3)
/-- A row of one's own, seen as a slice. -/
theorem row_slice (_hf : ∀ a, (f a).length = k) {W : World} {base : Nat} {e : TypeId} {v : Value} {L : List α} (h : W.ownsRow base e k v L.length (L.flatMap f)) : ∃ b cap, v = .slice b L.length cap ∧ L.length ≤ cap := by
  rcases h.2 with ⟨rfl, hn⟩ | ⟨g, cap, cur, rfl, hb, hg, hnc, _, hcs, htk⟩
  · exact ⟨none, 0, by rw [hn], by omega⟩
  · exact ⟨_, cap, rfl, hnc⟩
end
end Go.Proofs.YtbdpghjegachaaaGreatDoor

namespace Go.Proofs.YtbdpghjegachaaaGreatDoor
open Go.RowKit Go.Shelf

def nmL (x : Int) : List Value := [.int .i64 x]
theorem nmL_len (x : Int) : (nmL x).length = 1 := rfl
theorem nmL_one (x : Int) : ∀ u ∈ nmL x, u.oneCell' = true := by intro u hu; simp [nmL] at hu; subst hu; rfl
theorem el44 : ElOk 44 3 1 8 := ElOk.of Tryz.underlying44 (by kernel_rfl)
theorem pnF_take {L : List It} {k : Nat} (hk : k < L.length) : pnF (L.take (k + 1)) = pnF (L.take k) ++ (if L[k].k = 3 then [L[k].f] else []) := by
  rw [List.take_succ_eq_append_getElem hk, pnF_app]
  congr 1
  unfold pnF
  by_cases h : L[k].k = 3
  · rw [if_pos h, List.filter_cons_of_pos (by simpa using h)]; rfl
  · rw [if_neg h, List.filter_cons_of_neg (by simpa using h)]; rfl
theorem pnF_len (L : List It) : (pnF L).length ≤ L.length := by
  unfold pnF
  rw [List.length_map]
  exact List.length_filter_le _ _
/-- What stands while places are gathered. -/
structure PnI (w : World) (v : Value) (qs : List Int) (W : World) : Prop where
  low : Below w.heap.size w W
  row : W.ownsRow w.heap.size 3 1 v qs.length (qs.flatMap nmL)
set_option maxRecDepth 100000 in
set_option maxHeartbeats 2000000 in
theorem penalties_any (a : Pa) (hck : chkI a = 0) (w : World) (hA : PaAt w a) (htb : Hy.Tab w) : Calls Tryz.prog 57 #[.agg (paC a)] w fun e w' => ∃ v base, e = .returned v ∧ w.heap.size ≤ base ∧ w'.ownsRow base 3 1 v (pnA a).length ((pnA a).flatMap nmL) ∧ Below w.heap.size w w' := by
  have hB := (Below.refl w.heap.size w).alloc (Nat.le_refl _) (Obj.cells (paC a) 27)
  have hP := PB.new w a
  have hG := good_of hck
  have hlen : (itemsOf a).length ≤ 8193 := its_len9 _ _ _ (bodyL_few hG)
  have hit := items_all a _ (hA.below hB (Nat.le_refl _)) (htb.below hB)
  unfold ItemsEnd at hit
  rw [hck] at hit
  unfold paV at hit
  unfold pnA
  clear hA htb hG
  generalize itemsOf a = L at *
  generalize hw1 : w.alloc (.cells (paC a) 27) = w1 at *
  go_enter Tryz.func57, Tryz.ntmps57
  go_wp2_with (refine wpList_load_row rfl 27 _ rfl w.heap.size rfl 27 _ (0, 0) _ hP.row Tryz.underlying27 rfl (info34 a) ?_)
  refine hit.mono ?_
  rintro e W ⟨⟨v, rfl, hv⟩, hbW⟩
  have hrow : W.ownsRow w1.heap.size 129 8 v L.length (L.flatMap itL) := by
    rcases hv with ⟨h, _⟩ | ⟨_, h, _⟩
    · exact absurd rfl h
    · exact h
  have hrec := rec_of_row itL_len rfl hrow
  obtain ⟨va, vc, rfl, hvl⟩ := hrec.ex
  have hvc := hrec.le _ _ _ rfl
  have hBW := hB.trans (hbW.mono hB.size)
  have hcl : Hid (∀ W', Below W.heap.size W W' → ∀ i (h : i < L.length), ∃ b o, va = some ⟨b, o, none⟩ ∧ ∀ j u, (itL L[i])[j]? = some u → W'.cell? ⟨b, o + i * 8 + j, none⟩ = some u) := fun W' hb i h => by
    rcases hvl with e | ⟨b, o, e, hbb, hc⟩
    · rw [e] at h; simp at h
    · exact ⟨b, o, e, fun j u hu => (hb.cell hbb).trans (hc i h j u hu)⟩
  have hl' : (L.length : Int) ≤ 8193 := by omega
  have hI0 : Hid (PnI W (.slice none 0 0) (pnF (L.take 0)) W) := ⟨Below.refl _ _, World.ownsRow_nil _ _ _ _⟩
  clear hv hrow hrec hvl hit hP hB hbW hw1
  go_wp2_with fail
  go_loopw [5, 15] (fun v i wr => ∃ k : Nat, k ≤ L.length ∧ i = .int .i64 k ∧ Hid (PnI W v (pnF (L.take k)) wr)) (fun _ i _ => L.length - (intOf i).toNat)
  case atStart => exact ⟨0, by omega, rfl, hI0⟩
  case round =>
    obtain ⟨k, hk, rfl, hI⟩ := hrel
    by_cases hlt : k < L.length
    · have hlt' : (k : Int) < (L.length : Nat) := by omega
      obtain ⟨b, o, rfl, hc⟩ := hcl.out wr hI.out.low k hlt
      have n0 := hc 0 _ rfl
      have n1 := hc 1 _ rfl
      have n2 := hc 2 _ rfl
      have n3 := hc 3 _ rfl
      have n4 := hc 4 _ rfl
      have n5 := hc 5 _ rfl
      have n6 := hc 6 _ rfl
      have n7 := hc 7 _ rfl
      rw [Nat.add_zero] at n0
      obtain ⟨vaa, vcc, rfl, _⟩ := row_slice nmL_len hI.out.row
      have hq9 : (pnF (L.take k)).length ≤ 9000 := by have := pnF_len (L.take k); rw [List.length_take] at this; omega
      have htk : Hid (pnF (L.take (k + 1)) = pnF (L.take k) ++ (if L[k].k = 3 then [L[k].f] else [])) := pnF_take hlt
      clear hc hcl
      generalize hLk : L[k] = it at *
      replace hLk : Hid (L[k] = it) := hLk
      obtain ⟨x0, x1, x2, x3, x4, x5, x6, x7⟩ := it
      have hI1 : Hid (PnI W (.slice vaa (pnF (L.take k)).length vcc) (pnF (L.take k)) (wr.alloc (.cells #[.int .i64 x0, .int .i64 x1, .int .i64 x2, .int .i64 x3, .int .i64 x4, .int .i64 x5, .int .i64 x6, .bool x7] 129))) := ⟨hI.out.low.alloc hI.out.low.size _, hI.out.row.alloc _⟩
      by_cases h3 : x0 = 3
      · have h3' : (x0 == 3) = true := by simpa using h3
        have hnx : Hid (pnF (L.take (k + 1)) = pnF (L.take k) ++ [x1]) := by
          have := htk.out
          rw [if_pos (show x0 = 3 from h3)] at this
          exact this
        clear htk hI h3
        generalize hpk : pnF (L.take k) = qs at *
        replace hpk : Hid (pnF (L.take k) = qs) := hpk
        generalize hpk1 : pnF (L.take (k + 1)) = qs1 at *
        replace hpk1 : Hid (pnF (L.take (k + 1)) = qs1) := hpk1
        go_wp2_with (refine wpList_app2 (k := 1) (f := nmL) (w0 := wr.alloc (.cells #[.int .i64 x0, .int .i64 x1, .int .i64 x2, .int .i64 x3, .int .i64 x4, .int .i64 x5, .int .i64 x6, .bool x7] 129)) (bytes := 8) rfl el44 nmL_len nmL_one (by omega) (by omega) _ _ rfl W.heap.size (.slice vaa qs.length vcc) qs x1 rfl hI1.out.row hI1.out.low.size hq9 (by simp; rfl) rfl ?_; intro v' w6 hr6 hT6 hw6; have hI6 : Hid (PnI W v' qs1 w6) := ⟨hI1.out.low.trans (hT6.below hI1.out.low.size (fun c hc => (hI1.out.row.lt c hc).1)), by rw [hnx.out]; exact hr6⟩; clear hr6 hw6 hT6)
        exact ⟨⟨k + 1, by omega, by simp, by rw [hpk1.out]; exact hI6⟩, by simp [intOf]; omega⟩
      · have h3' : (x0 == 3) = false := by simpa using h3
        have hI2 : Hid (PnI W (.slice vaa (pnF (L.take k)).length vcc) (pnF (L.take (k + 1))) (wr.alloc (.cells #[.int .i64 x0, .int .i64 x1, .int .i64 x2, .int .i64 x3, .int .i64 x4, .int .i64 x5, .int .i64 x6, .bool x7] 129))) := by
          have := htk.out
          rw [if_neg (show ¬ x0 = 3 from h3), List.append_nil] at this
          rw [this]
          exact hI1.out
        clear htk hI h3 hI1
        generalize (pnF (L.take k)).length = ln at *
        go_wp2_with fail
        exact ⟨⟨k + 1, by omega, by simp, hI2⟩, by simp [intOf]; omega⟩
    · obtain rfl : k = L.length := by omega
      have hlt' : ¬ (L.length : Int) < (L.length : Nat) := by omega
      rw [List.take_length] at hI
      go_wp2_with fail
      go_ret
      exact ⟨_, rfl, W.heap.size, hBW.size, hI.out.row, hBW.trans (hI.out.low.mono hBW.size)⟩
end Go.Proofs.YtbdpghjegachaaaGreatDoor

namespace Go.Proofs.YtbdpghjegachaaaGreatDoor
open Go.RowKit Go.Shelf

set_option maxRecDepth 100000 in
theorem less_any (x y : Int) (w : World) : Calls Tryz.prog 100 #[.int .i64 x, .int .i64 y] w fun e w' => e = .returned (.bool (decide (x < y))) ∧ w' = w := by
  have hn := isNaN_any
  go_enter Tryz.func100, Tryz.ntmps100
  go_wp2_with (go_at_call 97; refine (hn _ _).mono ?_; rintro e w' ⟨rfl, rfl⟩)
  go_ret
  exact ⟨rfl, rfl⟩
set_option maxRecDepth 100000 in
theorem isNaN101 (n : Int) (w : World) : Calls Tryz.prog 101 #[.int .i64 n] w fun e w' => e = .returned (.bool false) ∧ w' = w := by
  go_enter Tryz.func101, Tryz.ntmps101
  go_wp2
  go_ret
  exact ⟨rfl, rfl⟩
set_option maxRecDepth 100000 in
set_option maxHeartbeats 2000000 in
theorem isearch_any (w : World) (g o n cap : Nat) (F : Nat → Int) (t : Int) (hr : ∀ j i, j < n → i < j → F i < F j) (hn : n ≤ 9000) (_hcap : n ≤ cap) (a : Option Addr) (ha : 0 < n → a = some ⟨g, o, none⟩) (hR : ∀ i, i < n → w.cell? ⟨g, o + i, none⟩ = some (.int .i64 (F i))) :
    Calls Tryz.prog 58 #[.slice a n cap, .int .i64 t] w fun e w' => e = .returned (.tuple #[.int .i64 (lowN F t n : Nat), .bool (fndB F t n)]) ∧ w' = w := by
  have hn' : (n : Int) ≤ 9000 := by omega
  have hr' : Hid (∀ j i, j < n → i < j → F i < F j) := hr
  have hcl : Hid (∀ i, i < n → w.cell? ⟨g, o + i, none⟩ = some (.int .i64 (F i))) := hR
  have hle := fun x W => less_any x t W
  have hna := fun x W => isNaN101 x W
  have hend : Hid (∀ p, p ≤ n → (∀ j, j < p → F j < t) → (∀ j, p ≤ j → j < n → t ≤ F j) → lowN F t n = p ∧ fndB F t n = (decide (p < n) && (F p == t))) := fun p hp h1 h2 => by
    have e := lowN_is (F := F) hp h1 h2
    unfold fndB
    rw [e]
    exact ⟨rfl, rfl⟩
  clear hr hR
  generalize lowN F t n = lo at *
  generalize fndB F t n = fb at *
  go_enter Tryz.func58, Tryz.ntmps58
  go_wp2_with fail
  go_loopw [7, 8] (fun i j wr => ∃ (p q : Nat), p ≤ q ∧ q ≤ n ∧ i = .int .i64 p ∧ j = .int .i64 q ∧ wr = w ∧ Hid (∀ j, j < p → F j < t) ∧ Hid (∀ j, q ≤ j → j < n → t ≤ F j)) (fun i j _ => (intOf j).toNat - (intOf i).toNat)
  case atStart => exact ⟨0, n, by omega, by omega, rfl, rfl, rfl, fun j hj => by omega, fun j hj h => by omega⟩
  case round =>
    obtain ⟨p, q, hpq, hq, rfl, rfl, hwr, hlo, hhi⟩ := hrel
    subst wr
    by_cases hlt : p < q
    · obtain rfl := ha (by omega)
      have hlt' : (p : Int) < q := by omega
      obtain ⟨m, hm, hm1, hm2⟩ : ∃ m : Nat, ((p : Int) + q) / 2 = m ∧ p ≤ m ∧ m < q := ⟨(p + q) / 2, by omega, by omega, by omega⟩
      have hml : m < n := by omega
      have hml' : (m : Int) < n := by omega
      have m0 := hcl.out m hml
      have hcall := hle (F m) w
      by_cases hx : F m < t
      · have hlo' : Hid (∀ j, j < m + 1 → F j < t) := fun j hjm => by
          by_cases e : j = m
          · subst e; exact hx
          · exact Int.lt_trans (hr'.out m j hml (by omega)) hx
        rw [decide_eq_true hx] at hcall
        clear hx hlo hr' hcl hle
        generalize F m = fm at *
        go_wp2_with (go_at_call 100; refine hcall.mono ?_; rintro e w' ⟨rfl, rfl⟩)
        exact ⟨⟨m + 1, q, by omega, by omega, by simp, rfl, trivial, hlo', hhi⟩, by simp [intOf]; omega⟩
      · have hhi' : Hid (∀ j, m ≤ j → j < n → t ≤ F j) := fun j hjm hj => by
          by_cases e : j = m
          · subst e; omega
          · have := hr'.out j m hj (by omega); omega
        rw [decide_eq_false hx] at hcall
        clear hx hhi hr' hcl hle
        generalize F m = fm at *
        go_wp2_with (go_at_call 100; refine hcall.mono ?_; rintro e w' ⟨rfl, rfl⟩)
        exact ⟨⟨p, m, by omega, by omega, rfl, rfl, trivial, hlo, hhi'⟩, by simp [intOf]; omega⟩
    · have hge : ¬ (p : Int) < q := by omega
      obtain ⟨e1, e2⟩ := hend.out p (by omega) hlo.out (fun j hj h => hhi.out j (by omega) h)
      replace e1 := e1.symm
      subst e1
      by_cases hpl : p < n
      · obtain rfl := ha (by omega)
        have hpl' : (p : Int) < n := by omega
        have m0 := hcl.out p hpl
        have hna1 := hna (F p) w
        have e3 : fb = (F p == t) := by rw [e2]; simp [hpl]
        clear hr' hcl e2 hle hlo hhi hend hna
        generalize F p = fp at *
        by_cases he : fp = t
        · have he' : (fp == t) = true := by simpa using he
          rw [he'] at e3
          subst e3
          clear he
          go_wp2_with (go_at_call 101; refine hna1.mono ?_; rintro e w' ⟨rfl, rfl⟩)
          go_ret2
          exact ⟨rfl, rfl⟩
        · have he' : (fp == t) = false := by simpa using he
          rw [he'] at e3
          subst e3
          go_wp2_with (go_at_call 101; refine hna1.mono ?_; rintro e w' ⟨rfl, rfl⟩)
          go_ret2
          exact ⟨rfl, rfl⟩
      · have hpl' : ¬ (p : Int) < n := by omega
        have e3 : fb = false := by rw [e2]; simp [hpl]
        subst e3
        clear hr' hcl e2 hlo hhi hend hle hna
        go_wp2_with fail
        go_ret2
        exact ⟨rfl, rfl⟩
end Go.Proofs.YtbdpghjegachaaaGreatDoor

namespace Go.Proofs.YtbdpghjegachaaaGreatDoor
open Go.RowKit Go.Shelf

def alC : Array Value := #[.func (.func 63) #[] #[], .func (.func 64) #[] #[], .func (.func 65) #[] #[], .func (.func 66) #[] #[]]
set_option maxRecDepth 100000 in
set_option maxHeartbeats 400000 in
theorem alignments_any (w : World) : Calls Tryz.prog 31 #[] w fun e w' => e = .returned (.agg alC) ∧ Below w.heap.size w w' := by
  have hz : (w.alloc (.cells #[.nilFunc, .nilFunc, .nilFunc, .nilFunc] 67)).heap[w.heap.size]? = some (.cells #[.nilFunc, .nilFunc, .nilFunc, .nilFunc] 67 (0, 0)) := World.alloc_heap_new w _
  have hB := (Below.refl w.heap.size w).alloc (Nat.le_refl _) (.cells #[.nilFunc, .nilFunc, .nilFunc, .nilFunc] 67)
  go_enter Tryz.func31, Tryz.ntmps31
  go_wp2_with (refine wpList_store_row rfl 67 _ _ rfl w.heap.size alC rfl rfl 67 _ hz (by kernel_rfl) rfl (by kernel_rfl) ?_)
  exact bodyPost_ret (results_cell_row rfl _ _ w.heap.size 67 _ (0, 0) _ rfl (setRow_heap _ _ _ _ 67 _ hz) Tryz.underlying67 rfl (by kernel_rfl)) rfl ⟨rfl, hB.trans ((Turns.setRow (X := fun k => k = w.heap.size) _ rfl _).below hB.size (fun k hk => by omega))⟩
/-- Has a paragraph of n masses a drop capital? -/
def capB (p : Pa) (n : Nat) (k : Int) : Bool := decide (2 ≤ p.p.p14) && (decide (0 < n) && (k == 1))
set_option maxRecDepth 100000 in
set_option maxHeartbeats 2000000 in
theorem hasCapital_any (p : Pa) (w : World) (g n cap : Nat) (M : Nat → Ms) (hn : n ≤ 4096) (a : Option Addr) (ha : 0 < n → a = some ⟨g, 0, none⟩) (hR : RF w g 0 n M) :
    Calls Tryz.prog 24 #[paV p, .slice a n cap] w fun e w' => e = .returned (.bool (capB p n (M 0).k)) ∧ Below w.heap.size w w' := by
  have hB := (Below.refl w.heap.size w).alloc (Nat.le_refl _) (Obj.cells (paC p) 27)
  have hP := PB.new w p
  have c16 : (w.alloc (.cells (paC p) 27)).cell? ⟨w.heap.size, 16, none⟩ = some (.int .i64 p.p.p14) := hP.cell (k := 16) rfl
  have hc : 0 < n → (w.alloc (.cells (paC p) 27)).cell? ⟨g, 2, none⟩ = some (.int .i64 (M 0).k) := fun h => ((hR.below hB (fun h => hR.lt h)).c h).2.2.1
  have hn' : (n : Int) ≤ 4096 := by omega
  clear hR hP
  unfold paV capB
  generalize hw1 : w.alloc (.cells (paC p) 27) = w1 at *
  by_cases h1 : 2 ≤ p.p.p14
  · by_cases h2 : 0 < n
    · obtain rfl := ha h2
      have c2 := hc h2
      have h2' : (0 : Int) < n := by omega
      rw [show decide (2 ≤ p.p.p14) = true by simpa using h1, show decide (0 < n) = true by simpa using h2]
      go_enter Tryz.func24, Tryz.ntmps24
      go_wp2_with fail
      go_ret
      exact ⟨by simp, hB⟩
    · rw [show decide (2 ≤ p.p.p14) = true by simpa using h1, show decide (0 < n) = false by simpa using h2]
      have h2' : ¬ (0 : Int) < n := by omega
      go_enter Tryz.func24, Tryz.ntmps24
      go_wp2_with fail
      go_ret
      exact ⟨by simp, hB⟩
  · rw [show decide (2 ≤ p.p.p14) = false by simpa using h1]
    go_enter Tryz.func24, Tryz.ntmps24
    go_wp2_with fail
    go_ret
    exact ⟨by simp, hB⟩
/-- How wide a hyphen is. -/
def shyW (s : Int) : Int := wVal ⟨#[45]⟩ s
theorem hyW_rng {s : Int} (h : 1 ≤ s ∧ s ≤ 64) : 0 ≤ shyW s ∧ shyW s ≤ 64 := by
  have e : shyW s = widthI ⟨#[45]⟩ s := by
    rcases wErr_cases ⟨#[45]⟩ s with ⟨_, _, h2⟩ | ⟨_, _, _, _, h2⟩ | ⟨_, e2, _⟩
    · omega
    · exact absurd h2 (by decide)
    · exact e2
  have := tw_rng ⟨#[45]⟩ (s := s) (by omega) h.2 1
  rw [e]
  show 0 ≤ tw ⟨#[45]⟩ s 1 ∧ tw ⟨#[45]⟩ s 1 ≤ 64
  omega
set_option maxRecDepth 100000 in
set_option maxHeartbeats 400000 in
theorem shyphenWidth_any (s : Int) (w : World) : Calls Tryz.prog 28 #[.int .i64 s] w fun e w' => e = .returned (.int .i64 (shyW s)) ∧ w' = w := by
  have h := Width_any ⟨#[45]⟩ s w
  unfold shyW
  generalize wVal ⟨#[45]⟩ s = a at *
  generalize wErr ⟨#[45]⟩ s = b at *
  go_enter Tryz.func28, Tryz.ntmps28
  go_wp2_with (go_at_call 59; refine h.mono ?_; rintro e w' ⟨rfl, rfl⟩)
  go_ret
  exact ⟨rfl, rfl⟩
end Go.Proofs.YtbdpghjegachaaaGreatDoor
