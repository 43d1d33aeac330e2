/-
  What is proved here: what Items of item answers of any paragraph.
  What is proved here: what Plain answers.
  What is proved here: the examples' items; when two lists of items are the same; what two, wide and Of answer.
  What is proved here: when two lists of items are the same; what two, wide, Of, items and awake answer.
  What is proved here: what two, wide, Of answer.
-/
import Derived.Test.YthcphnifnfnceaaGreatDoorG33
import Derived.Test.YthcphnifnfnceaaGreatDoorG15
import Derived.Test.YthcphnifnfnceaaGreatDoorG4
import Derived.Test.YthcphnifnfnceaaGreatDoorG5
namespace Go.Proofs.YthcphnifnfnceaaGreatDoor
open Go.RowKit Go.Shelf

set_option maxRecDepth 100000 in
set_option maxHeartbeats 2000000 in
theorem items_no (a : Pa) (w : World) (hA : PaAt w a) (h : chkI a ≠ 0) : Calls Tryz.prog 9 #[paV a] w (ItemsEnd a w) := by
  have hB := (Below.refl w.heap.size w).alloc (Nat.le_refl _) (Obj.cells (paC a) 27)
  have hP := PB.new w a
  have hs := masses_any a _ (hA.below hB (Nat.le_refl _))
  have hE : Hid (∀ W, Below w.heap.size w W → ItemsEnd a w (.returned (.tuple #[.slice none 0 0, .int .i64 (chkI a)])) W) := fun W hW => ⟨⟨_, rfl, .inl ⟨h, rfl⟩⟩, hW⟩
  unfold MassEnd at hs
  unfold paV at hs ⊢
  have h' : (chkI a == 0) = false := by simpa using h
  have hs' : Hid (Calls Tryz.prog 33 #[.agg (paC a)] (w.alloc (.cells (paC a) 27)) fun e w' => (∃ v, e = .returned (.tuple #[v, .int .i64 (chkI a)]) ∧ v = .slice none 0 0) ∧ Below w.heap.size w w') := by
    refine hs.mono ?_
    rintro e w' ⟨⟨v, rfl, hv⟩, hb⟩
    refine ⟨⟨v, rfl, ?_⟩, hB.trans (hb.mono hB.size)⟩
    rcases hv with ⟨_, h1⟩ | ⟨h1, _⟩
    · exact h1
    · exact absurd h1 h
  clear hs h
  generalize chkI a = n at *
  generalize hw1 : w.alloc (.cells (paC a) 27) = w1 at *
  go_enter Tryz.func9, Tryz.ntmps9
  go_wp2_with (first | (refine wpList_load_row rfl 27 _ rfl w.heap.size rfl 27 _ (0, 0) _ hP.row Tryz.underlying27 rfl (info34 a) ?_) | (go_at_call 33; refine hs'.out.mono ?_; rintro e w' ⟨⟨v, rfl, rfl⟩, hb2⟩))
  go_ret2
  exact hE.out _ hb2

--OK
theorem rec_some {α : Type} {k : Nat} {f : α → List Value} {W : World} {a : Option Addr} {n c : Nat} {l : List α} (h : RecAt k f W (.slice a n c) l) (hl : 0 < l.length) : ∃ g o, a = some ⟨g, o, none⟩ ∧ g < W.heap.size ∧ ∀ i (hi : i < l.length) (j : Nat) u, (f l[i])[j]? = some u → W.cell? ⟨g, o + i * k + j, none⟩ = some u := by
  obtain ⟨a0, cap0, h1, h2⟩ := h.ex
  cases h1
  rcases h2 with h2 | ⟨b, o, e, hb, hc⟩
  · rw [h2] at hl; cases hl
  · exact ⟨b, o, e, hb, hc⟩
theorem drop_both {W : World} {g o n cap : Nat} {l : List Ms} (h : RecAt 6 msL W (.slice (some ⟨g, o, none⟩) n cap) l) (hl : 0 < l.length) : ∃ a', (∀ W : World, (Instr.slice 54 (.slice (some ⟨g, o, none⟩) n cap) (some (.int .i64 1)) none none).run Tryz.prog W = .ok (.slice a' (n - 1) (cap - 1)) W) ∧ RecAt 6 msL W (.slice a' (n - 1) (cap - 1)) (l.drop 1) ∧ ∃ o', a' = some ⟨g, o', none⟩ := by
  have hle := h.le _ _ _ rfl
  have hn : n = l.length := by
    obtain ⟨a0, c0, e, _⟩ := h.ex
    cases e; rfl
  obtain ⟨a', h1, h2, h3⟩ := drop_rec (g := g) (o := o) (show 0 < n by omega) hle
  exact ⟨a', h1, drop_at h h2, h3⟩
theorem rowlt {w : World} {base : Nat} {t : TypeId} {sz : Nat} {a : Option Addr} {n c : Nat} {xs : List Value} (h : w.ownsRow base t sz (.slice a n c) n xs) {g o : Nat} (e : a = some ⟨g, o, none⟩) : g < w.heap.size := by
  subst e
  have hl := h.lt
  rcases h.2 with ⟨h1, _⟩ | ⟨g', cap, cur, h1, _⟩
  · cases h1
  · cases h1; exact (hl g rfl).2
set_option maxRecDepth 100000 in
set_option maxHeartbeats 8000000 in
theorem items_A (a : Pa) (w : World) (hA : PaAt w a) (htb : Hy.Tab w) (h : chkI a = 0) (h14 : ¬ 2 ≤ a.p.p14) : Calls Tryz.prog 9 #[paV a] w (ItemsEnd a w) := by
  have hB := (Below.refl w.heap.size w).alloc (Nat.le_refl _) (Obj.cells (paC a) 27)
  have hP := PB.new w a
  have hG := good_of h
  have hbl : Hid (bodyL a = mss a) := if_neg (fun h => h14 h.1)
  have q1 : decide (2 ≤ a.p.p14) = false := decide_eq_false h14
  have hs := masses_any a _ (hA.below hB (Nat.le_refl _))
  have hE : Hid (∀ W v, W.ownsRow w.heap.size 51 8 v (itemsOf a).length ((itemsOf a).flatMap itL) → FillI W v → Below w.heap.size w W → ItemsEnd a w (.returned (.tuple #[v, .int .i64 0])) W) := fun W v hv hf hW => ⟨⟨_, by rw [h], .inr ⟨h, hv, hf⟩⟩, hW⟩
  unfold MassEnd at hs
  unfold paV at hs ⊢
  rw [h] at hs
  have hs' : Hid (Calls Tryz.prog 33 #[.agg (paC a)] (w.alloc (.cells (paC a) 27)) fun e w' => ∃ v, e = .returned (.tuple #[v, .int .i64 0]) ∧ w'.ownsRow (w.alloc (.cells (paC a) 27)).heap.size 58 6 v (num a.t) ((mss a).flatMap msL) ∧ Below (w.alloc (.cells (paC a) 27)).heap.size (w.alloc (.cells (paC a) 27)) w') := by
    refine hs.mono ?_
    rintro e w' ⟨⟨v, rfl, hv⟩, hb⟩
    refine ⟨v, rfl, ?_, hb⟩
    rcases hv with ⟨h1, _⟩ | ⟨_, h1⟩
    · exact absurd rfl h1
    · exact h1
  clear hs h
  have hsz1 : Hid ((w.alloc (.cells (paC a) 27)).heap.size = w.heap.size + 1) := World.size_alloc _ _
  generalize hw1 : w.alloc (.cells (paC a) 27) = w1 at *
  refine (callsIn_wide (n := 0)).1 ?_
  refine callsIn_of_wp_marks Tryz.func9 rfl trivial ?_ rfl
  simp only [Tryz.ntmps9, List.size_toArray, List.length_cons, List.length_nil, Nat.reduceAdd, Nat.reduceSub, Array.replicate_succ, Array.replicate_zero, List.push_toArray, List.append_toArray, List.nil_append, List.cons_append]
  refine wpIn_wide.2 ?_
  go_wp2_with (first | (refine wpList_load_row rfl 27 _ rfl w.heap.size rfl 27 _ (0, 0) _ hP.row Tryz.underlying27 rfl (info34 a) ?_) | (go_at_call 33; refine hs'.out.mono ?_; rintro e w2 ⟨v, rfl, hown, hb2⟩; obtain ⟨av, cv, rfl⟩ := Hy.row_val hown; have hP2 := hP.below hb2 hP.lt; have c16 : w2.cell? ⟨w.heap.size, 16, none⟩ = some (.int .i64 a.p.p14) := hP2.cell rfl; have hB2 : Below w.heap.size w w2 := hB.trans (hb2.mono hB.size); have hrec := rec_of_row msL_len (mss_len a).symm hown; have hown0 := hown))
  rename_i K hK
  refine items_tail (ItemsEnd a w) K hK 6 "item.go:35" a w.heap.size _ _ _ w w2 (by rw [hbl.out, mss_len]) hB2 hP2 (Nat.le_refl _) (by rw [hbl.out]; exact hrec) (fun g0 o0 e => rowlt hown0 e) (htb.below hB2) hG hE.out
set_option maxRecDepth 100000 in
set_option maxHeartbeats 8000000 in
theorem items_B (a : Pa) (w : World) (hA : PaAt w a) (htb : Hy.Tab w) (h : chkI a = 0) (h14 : 2 ≤ a.p.p14) (hn0 : num a.t = 0) : Calls Tryz.prog 9 #[paV a] w (ItemsEnd a w) := by
  have hB := (Below.refl w.heap.size w).alloc (Nat.le_refl _) (Obj.cells (paC a) 27)
  have hP := PB.new w a
  have hG := good_of h
  have hbl : Hid (bodyL a = mss a) := if_neg (fun h => by have := h.2.1; rw [mss_len] at this; omega)
  have q1 : decide (2 ≤ a.p.p14) = true := decide_eq_true h14
  have q2 : decide (0 < num a.t) = false := decide_eq_false (by omega)
  clear hn0
  have hs := masses_any a _ (hA.below hB (Nat.le_refl _))
  have hE : Hid (∀ W v, W.ownsRow w.heap.size 51 8 v (itemsOf a).length ((itemsOf a).flatMap itL) → FillI W v → Below w.heap.size w W → ItemsEnd a w (.returned (.tuple #[v, .int .i64 0])) W) := fun W v hv hf hW => ⟨⟨_, by rw [h], .inr ⟨h, hv, hf⟩⟩, hW⟩
  unfold MassEnd at hs
  unfold paV at hs ⊢
  rw [h] at hs
  have hs' : Hid (Calls Tryz.prog 33 #[.agg (paC a)] (w.alloc (.cells (paC a) 27)) fun e w' => ∃ v, e = .returned (.tuple #[v, .int .i64 0]) ∧ w'.ownsRow (w.alloc (.cells (paC a) 27)).heap.size 58 6 v (num a.t) ((mss a).flatMap msL) ∧ Below (w.alloc (.cells (paC a) 27)).heap.size (w.alloc (.cells (paC a) 27)) w') := by
    refine hs.mono ?_
    rintro e w' ⟨⟨v, rfl, hv⟩, hb⟩
    refine ⟨v, rfl, ?_, hb⟩
    rcases hv with ⟨h1, _⟩ | ⟨_, h1⟩
    · exact absurd rfl h1
    · exact h1
  clear hs h
  have hsz1 : Hid ((w.alloc (.cells (paC a) 27)).heap.size = w.heap.size + 1) := World.size_alloc _ _
  generalize hw1 : w.alloc (.cells (paC a) 27) = w1 at *
  refine (callsIn_wide (n := 0)).1 ?_
  refine callsIn_of_wp_marks Tryz.func9 rfl trivial ?_ rfl
  simp only [Tryz.ntmps9, List.size_toArray, List.length_cons, List.length_nil, Nat.reduceAdd, Nat.reduceSub, Array.replicate_succ, Array.replicate_zero, List.push_toArray, List.append_toArray, List.nil_append, List.cons_append]
  refine wpIn_wide.2 ?_
  go_wp2_with (first | (refine wpList_load_row rfl 27 _ rfl w.heap.size rfl 27 _ (0, 0) _ hP.row Tryz.underlying27 rfl (info34 a) ?_) | (go_at_call 33; refine hs'.out.mono ?_; rintro e w2 ⟨v, rfl, hown, hb2⟩; obtain ⟨av, cv, rfl⟩ := Hy.row_val hown; have hP2 := hP.below hb2 hP.lt; have c16 : w2.cell? ⟨w.heap.size, 16, none⟩ = some (.int .i64 a.p.p14) := hP2.cell rfl; have hB2 : Below w.heap.size w w2 := hB.trans (hb2.mono hB.size); have hrec := rec_of_row msL_len (mss_len a).symm hown; have hown0 := hown))
  rename_i K hK
  refine items_tail (ItemsEnd a w) K hK 6 "item.go:35" a w.heap.size _ _ _ w w2 (by rw [hbl.out, mss_len]) hB2 hP2 (Nat.le_refl _) (by rw [hbl.out]; exact hrec) (fun g0 o0 e => rowlt hown0 e) (htb.below hB2) hG hE.out
set_option maxRecDepth 100000 in
set_option maxHeartbeats 8000000 in
theorem items_C (a : Pa) (w : World) (hA : PaAt w a) (htb : Hy.Tab w) (h : chkI a = 0) (h14 : 2 ≤ a.p.p14) (hn0 : 0 < num a.t) (hk : (mAt (mss a) 0).k ≠ 1) : Calls Tryz.prog 9 #[paV a] w (ItemsEnd a w) := by
  have hB := (Below.refl w.heap.size w).alloc (Nat.le_refl _) (Obj.cells (paC a) 27)
  have hP := PB.new w a
  have hG := good_of h
  have hbl : Hid (bodyL a = mss a) := if_neg (fun h => hk h.2.2)
  have q1 : decide (2 ≤ a.p.p14) = true := decide_eq_true h14
  have q2 : decide (0 < num a.t) = true := decide_eq_true hn0
  have q3 : ((mAt (mss a) 0).k == 1) = false := by simpa using hk
  have hs := masses_any a _ (hA.below hB (Nat.le_refl _))
  have hE : Hid (∀ W v, W.ownsRow w.heap.size 51 8 v (itemsOf a).length ((itemsOf a).flatMap itL) → FillI W v → Below w.heap.size w W → ItemsEnd a w (.returned (.tuple #[v, .int .i64 0])) W) := fun W v hv hf hW => ⟨⟨_, by rw [h], .inr ⟨h, hv, hf⟩⟩, hW⟩
  unfold MassEnd at hs
  unfold paV at hs ⊢
  rw [h] at hs
  have hs' : Hid (Calls Tryz.prog 33 #[.agg (paC a)] (w.alloc (.cells (paC a) 27)) fun e w' => ∃ v, e = .returned (.tuple #[v, .int .i64 0]) ∧ w'.ownsRow (w.alloc (.cells (paC a) 27)).heap.size 58 6 v (num a.t) ((mss a).flatMap msL) ∧ Below (w.alloc (.cells (paC a) 27)).heap.size (w.alloc (.cells (paC a) 27)) w') := by
    refine hs.mono ?_
    rintro e w' ⟨⟨v, rfl, hv⟩, hb⟩
    refine ⟨v, rfl, ?_, hb⟩
    rcases hv with ⟨h1, _⟩ | ⟨_, h1⟩
    · exact absurd rfl h1
    · exact h1
  clear hs h
  have hsz1 : Hid ((w.alloc (.cells (paC a) 27)).heap.size = w.heap.size + 1) := World.size_alloc _ _
  generalize hw1 : w.alloc (.cells (paC a) 27) = w1 at *
  refine (callsIn_wide (n := 0)).1 ?_
  refine callsIn_of_wp_marks Tryz.func9 rfl trivial ?_ rfl
  simp only [Tryz.ntmps9, List.size_toArray, List.length_cons, List.length_nil, Nat.reduceAdd, Nat.reduceSub, Array.replicate_succ, Array.replicate_zero, List.push_toArray, List.append_toArray, List.nil_append, List.cons_append]
  refine wpIn_wide.2 ?_
  go_wp2_with (first | (refine wpList_load_row rfl 27 _ rfl w.heap.size rfl 27 _ (0, 0) _ hP.row Tryz.underlying27 rfl (info34 a) ?_) | (go_at_call 33; refine hs'.out.mono ?_; rintro e w2 ⟨v, rfl, hown, hb2⟩; obtain ⟨av, cv, rfl⟩ := Hy.row_val hown; have hP2 := hP.below hb2 hP.lt; have c16 : w2.cell? ⟨w.heap.size, 16, none⟩ = some (.int .i64 a.p.p14) := hP2.cell rfl; have hB2 : Below w.heap.size w w2 := hB.trans (hb2.mono hB.size); have hrec := rec_of_row msL_len (mss_len a).symm hown; have hown0 := hown; obtain ⟨g, o, rfl, hlt, hc⟩ := rec_some hrec (by rw [mss_len]; exact hn0); have hcap := hrec.le _ _ _ rfl; have hc2 : w2.cell? ⟨g, o + 2, none⟩ = some (.int .i64 (mAt (mss a) 0).k) := (by have := hc 0 (by rw [mss_len]; exact hn0) 2 _ rfl; rw [Nat.zero_mul, Nat.add_zero] at this; rw [this, mAt_is (by rw [mss_len]; exact hn0)])))
  rename_i K hK
  refine items_tail (ItemsEnd a w) K hK 6 "item.go:35" a w.heap.size _ _ _ w w2 (by rw [hbl.out, mss_len]) hB2 hP2 (Nat.le_refl _) (by rw [hbl.out]; exact hrec) (fun g0 o0 e => rowlt hown0 e) (htb.below hB2) hG hE.out
set_option maxRecDepth 100000 in
set_option maxHeartbeats 8000000 in
theorem items_D (a : Pa) (w : World) (hA : PaAt w a) (htb : Hy.Tab w) (h : chkI a = 0) (h14 : 2 ≤ a.p.p14) (hn0 : 0 < num a.t) (hk : (mAt (mss a) 0).k = 1) : Calls Tryz.prog 9 #[paV a] w (ItemsEnd a w) := by
  have hB := (Below.refl w.heap.size w).alloc (Nat.le_refl _) (Obj.cells (paC a) 27)
  have hP := PB.new w a
  have hG := good_of h
  have hbl : Hid (bodyL a = (mss a).drop 1) := if_pos ⟨h14, by rw [mss_len]; exact hn0, hk⟩
  have q1 : decide (2 ≤ a.p.p14) = true := decide_eq_true h14
  have q2 : decide (0 < num a.t) = true := decide_eq_true hn0
  have q3 : ((mAt (mss a) 0).k == 1) = true := by rw [hk]; rfl
  have hlen : Hid (0 < (mss a).length) := by show _ < _; rw [mss_len]; exact hn0
  have hs := masses_any a _ (hA.below hB (Nat.le_refl _))
  have hE : Hid (∀ W v, W.ownsRow w.heap.size 51 8 v (itemsOf a).length ((itemsOf a).flatMap itL) → FillI W v → Below w.heap.size w W → ItemsEnd a w (.returned (.tuple #[v, .int .i64 0])) W) := fun W v hv hf hW => ⟨⟨_, by rw [h], .inr ⟨h, hv, hf⟩⟩, hW⟩
  unfold MassEnd at hs
  unfold paV at hs ⊢
  rw [h] at hs
  have hs' : Hid (Calls Tryz.prog 33 #[.agg (paC a)] (w.alloc (.cells (paC a) 27)) fun e w' => ∃ v, e = .returned (.tuple #[v, .int .i64 0]) ∧ w'.ownsRow (w.alloc (.cells (paC a) 27)).heap.size 58 6 v (num a.t) ((mss a).flatMap msL) ∧ Below (w.alloc (.cells (paC a) 27)).heap.size (w.alloc (.cells (paC a) 27)) w') := by
    refine hs.mono ?_
    rintro e w' ⟨⟨v, rfl, hv⟩, hb⟩
    refine ⟨v, rfl, ?_, hb⟩
    rcases hv with ⟨h1, _⟩ | ⟨_, h1⟩
    · exact absurd rfl h1
    · exact h1
  clear hs h
  have hsz1 : Hid ((w.alloc (.cells (paC a) 27)).heap.size = w.heap.size + 1) := World.size_alloc _ _
  generalize hw1 : w.alloc (.cells (paC a) 27) = w1 at *
  refine (callsIn_wide (n := 0)).1 ?_
  refine callsIn_of_wp_marks Tryz.func9 rfl trivial ?_ rfl
  simp only [Tryz.ntmps9, List.size_toArray, List.length_cons, List.length_nil, Nat.reduceAdd, Nat.reduceSub, Array.replicate_succ, Array.replicate_zero, List.push_toArray, List.append_toArray, List.nil_append, List.cons_append]
  refine wpIn_wide.2 ?_
  go_wp2_with (first | (refine wpList_load_row rfl 27 _ rfl w.heap.size rfl 27 _ (0, 0) _ hP.row Tryz.underlying27 rfl (info34 a) ?_) | (go_at_call 33; refine hs'.out.mono ?_; rintro e w2 ⟨v, rfl, hown, hb2⟩; obtain ⟨av, cv, rfl⟩ := Hy.row_val hown; have hP2 := hP.below hb2 hP.lt; have c16 : w2.cell? ⟨w.heap.size, 16, none⟩ = some (.int .i64 a.p.p14) := hP2.cell rfl; have hB2 : Below w.heap.size w w2 := hB.trans (hb2.mono hB.size); have hrec := rec_of_row msL_len (mss_len a).symm hown; have hown0 := hown; obtain ⟨g, o, rfl, hlt, hc⟩ := rec_some hrec (by rw [mss_len]; exact hn0); have hcap := hrec.le _ _ _ rfl; have hc2 : w2.cell? ⟨g, o + 2, none⟩ = some (.int .i64 (mAt (mss a) 0).k) := (by have := hc 0 (by rw [mss_len]; exact hn0) 2 _ rfl; rw [Nat.zero_mul, Nat.add_zero] at this; rw [this, mAt_is (by rw [mss_len]; exact hn0)]); obtain ⟨a', hsl, hdr, hag⟩ := drop_both hrec hlen.out))
  rename_i K hK
  refine items_tail (ItemsEnd a w) K hK 6 "item.go:35" a w.heap.size _ _ _ w w2 (by rw [hbl.out, List.length_drop, mss_len]) hB2 hP2 (Nat.le_refl _) (by rw [hbl.out]; exact hdr) (fun g0 o0 e => by rw [e] at hag; obtain ⟨o', h⟩ := hag; cases h; exact hlt) (htb.below hB2) hG hE.out

theorem items_all (a : Pa) (w : World) (hA : PaAt w a) (htb : Hy.Tab w) : Calls Tryz.prog 9 #[paV a] w (ItemsEnd a w) := by
  by_cases h : chkI a = 0
  · by_cases h14 : 2 ≤ a.p.p14
    · by_cases hn : num a.t = 0
      · exact items_B a w hA htb h h14 hn
      · by_cases hk : (mAt (mss a) 0).k = 1
        · exact items_D a w hA htb h h14 (by omega) hk
        · exact items_C a w hA htb h h14 (by omega) hk
    · exact items_A a w hA htb h h14
  · exact items_no a w hA h
end Go.Proofs.YthcphnifnfnceaaGreatDoor

namespace Go.Proofs.YthcphnifnfnceaaGreatDoor
open Go.RowKit Go.Shelf

theorem prL_size (p : Pr) : (prL p).toArray.size = 17 := rfl
theorem prL_one (p : Pr) : (prL p).toArray.all (·.oneCell') = true := by simp [prL, Value.oneCell']
theorem paC_one (a : Pa) (h1 : a.sv.oneCell' = true) (h2 : a.mv.oneCell' = true) : (paC a).all (·.oneCell') = true := by simp [paC, Value.oneCell']; exact ⟨h1, h2⟩
def plainP (s : Int) : Pr := ⟨s, 12, 0, 0, 0, 0, 0, 0, 0, 0, 1, 1, 0, 0, 0, 0, 0⟩

set_option maxRecDepth 100000 in
set_option maxHeartbeats 2000000 in
theorem plain_any (s : Int) (w : World) : Calls Tryz.prog 59 #[.int .i64 s] w fun e w' => e = .returned (.agg (prL (plainP s)).toArray) ∧ Below w.heap.size w w' := by
  have hB := (Below.refl w.heap.size w).alloc (Nat.le_refl _) (Obj.cells #[.int .i64 0, .int .i64 0, .int .i64 0, .int .i64 0, .int .i64 0, .int .i64 0, .int .i64 0, .int .i64 0, .int .i64 0, .int .i64 0, .int .i64 0, .int .i64 0, .int .i64 0, .int .i64 0, .int .i64 0, .int .i64 0, .int .i64 0] 24)
  have hz : (w.alloc (.cells #[.int .i64 0, .int .i64 0, .int .i64 0, .int .i64 0, .int .i64 0, .int .i64 0, .int .i64 0, .int .i64 0, .int .i64 0, .int .i64 0, .int .i64 0, .int .i64 0, .int .i64 0, .int .i64 0, .int .i64 0, .int .i64 0, .int .i64 0] 24)).heap[w.heap.size]? = some (.cells #[.int .i64 0, .int .i64 0, .int .i64 0, .int .i64 0, .int .i64 0, .int .i64 0, .int .i64 0, .int .i64 0, .int .i64 0, .int .i64 0, .int .i64 0, .int .i64 0, .int .i64 0, .int .i64 0, .int .i64 0, .int .i64 0, .int .i64 0] 24 (0, 0)) := World.alloc_heap_new w _
  go_enter Tryz.func59, Tryz.ntmps59
  go_wp2_with (refine wpList_store_row rfl 24 _ _ rfl w.heap.size (prL (plainP s)).toArray rfl rfl 24 _ hz (info31 _) rfl (prL_one _) ?_)
  refine bodyPost_ret (results_cell_row rfl _ _ w.heap.size 24 _ (0, 0) _ rfl (setRow_heap _ _ _ _ 24 _ hz) Tryz.underlying24 rfl (info31 (plainP s))) rfl ⟨rfl, ?_⟩
  exact hB.trans ((Turns.setRow (X := fun b => b = w.heap.size) (w.alloc (.cells #[.int .i64 0, .int .i64 0, .int .i64 0, .int .i64 0, .int .i64 0, .int .i64 0, .int .i64 0, .int .i64 0, .int .i64 0, .int .i64 0, .int .i64 0, .int .i64 0, .int .i64 0, .int .i64 0, .int .i64 0, .int .i64 0, .int .i64 0] 24)) rfl _).below (by simp) (fun b hb => by omega))

end Go.Proofs.YthcphnifnfnceaaGreatDoor

namespace Go.Proofs.YthcphnifnfnceaaGreatDoor
open Go.RowKit Go.Shelf

def twoL : List It := [⟨1, 0, 1, 5, 0, 0, 0, false⟩, ⟨2, 1, 2, 3, 1, 1, 0, false⟩, ⟨1, 2, 3, 5, 0, 0, 0, false⟩]
def dashL : List It := [⟨1, 0, 2, 8, 0, 0, 0, false⟩, ⟨3, 2, 2, 0, 0, 0, 50, false⟩, ⟨1, 2, 3, 5, 0, 0, 0, false⟩]
def wordL : List It := [⟨1, 0, 2, 8, 0, 0, 0, false⟩, ⟨3, 2, 2, 3, 0, 0, 100, true⟩, ⟨1, 2, 5, 12, 0, 0, 0, false⟩]
/-- A paragraph of a text, of one look, of size 8. -/
def ofP (t : ByteArray) (sv : Value) (h : Int) : Pa := ⟨t, sv, ⟨8, 12, 0, 0, 0, 0, 0, 0, 0, 0, 1, 1, h, 0, 0, 0, 0⟩, ⟨#[]⟩, .slice none 0 0, [⟨t.size, 0, 0, 0⟩], []⟩
theorem ofP_ok1 (sv : Value) : chkI (ofP ⟨#[97, 32, 98]⟩ sv 0) = 0 := by kernel_rfl
theorem ofP_its1 (sv : Value) : itemsOf (ofP ⟨#[97, 32, 98]⟩ sv 0) = twoL := by kernel_rfl
theorem ofP_ok2 (sv : Value) : chkI (ofP ⟨#[97, 45, 98]⟩ sv 0) = 0 := by kernel_rfl
theorem ofP_its2 (sv : Value) : itemsOf (ofP ⟨#[97, 45, 98]⟩ sv 0) = dashL := by kernel_rfl
theorem ofP_ok3 (sv : Value) : chkI (ofP ⟨#[116, 97, 98, 108, 101]⟩ sv 1) = 0 := by kernel_rfl
theorem ofP_its3 (sv : Value) : itemsOf (ofP ⟨#[116, 97, 98, 108, 101]⟩ sv 1) = wordL := by kernel_rfl
theorem ofP_ok4 (sv : Value) : chkI (ofP ⟨#[97, 9, 98]⟩ sv 0) = 0 := by kernel_rfl
theorem two_l0 : lgB twoL 0 = false := by decide +kernel
theorem two_l1 : lgB twoL 1 = true := by decide +kernel
theorem two_l2 : lgB twoL 2 = false := by decide +kernel
theorem two_l3 : lgB twoL 3 = true := by decide +kernel
theorem two_sV : stV twoL 1 = 2 := by decide +kernel
theorem two_sE : stE twoL 1 = 0 := by decide +kernel
theorem two_w1 : wiV twoL 0 1 0 = 5 ∧ wiE twoL 0 1 0 = 0 := by decide +kernel
theorem two_w3 : wiV twoL 0 3 0 = 13 ∧ wiE twoL 0 3 0 = 0 := by decide +kernel
theorem two_w2 : wiV twoL 0 2 0 = 5 ∧ wiE twoL 0 2 0 = 0 := by decide +kernel
def tabL : List It := itemsOf (ofP ⟨#[97, 9, 98]⟩ (.slice none 0 0) 0)
theorem ofP_its4 (sv : Value) : itemsOf (ofP ⟨#[97, 9, 98]⟩ sv 0) = tabL := by kernel_rfl
theorem tab_lp : lpB tabL = true := by kernel_rfl
theorem two_lp : lpB twoL = false := by kernel_rfl
theorem tab_w0 : wiV tabL 0 3 0 = 53 := by kernel_rfl
theorem tab_e0 : wiE tabL 0 3 0 = 0 := by kernel_rfl
theorem tab_w4 : wiV tabL 0 3 40 = 13 := by kernel_rfl
theorem tab_e4 : wiE tabL 0 3 40 = 0 := by kernel_rfl
def bareP : Pa := ⟨⟨#[97]⟩, .slice none 0 0, ⟨0, 0, 0, 0, 0, 0, 0, 0, 0, 0, 0, 0, 0, 0, 0, 0, 0⟩, ⟨#[]⟩, .slice none 0 0, [], []⟩
theorem bare_no : chkI bareP = 2 := by kernel_rfl

end Go.Proofs.YthcphnifnfnceaaGreatDoor

namespace Go.Proofs.YthcphnifnfnceaaGreatDoor
open Go.RowKit Go.Shelf

set_option maxRecDepth 100000 in
set_option maxHeartbeats 4000000 in
theorem sameItems_yes (v u : Value) (qs : List It) (w : World) (hl : qs.length ≤ 9223372036854775807) (hS : ItsAt w v qs) (hR : ItsAt w u qs) :
    Calls Tryz.prog 11 #[v, u] w fun e w' => e = .returned (.bool true) ∧ Below w.heap.size w w' := by
  obtain ⟨a, cap, rfl, h2⟩ := hS.ex
  obtain ⟨a', cap', rfl, h3⟩ := hR.ex
  clear hS hR
  go_enter Tryz.func11, Tryz.ntmps11
  go_wp2_with fail
  go_loopw [5] (fun i wr => ∃ k : Nat, k ≤ qs.length ∧ i = .int .i64 k ∧ Below w.heap.size w wr) (fun i _ => qs.length - (intOf i).toNat)
  case atStart => exact ⟨0, by omega, rfl, Below.refl _ _⟩
  case round =>
    obtain ⟨k, hk, rfl, hb⟩ := hrel
    by_cases hlt : k < qs.length
    · rcases h2 with h2 | ⟨b, o, rfl, hbl, hc⟩
      · rw [h2] at hlt; simp at hlt
      · rcases h3 with h3 | ⟨b', o', rfl, hbl', hc'⟩
        · rw [h3] at hlt; simp at hlt
        · have hlt' : (k : Int) < qs.length := by omega
          have c0 : wr.cell? ⟨b, o + k * 8, none⟩ = some (.int .i64 qs[k].k) := (hb.cell hbl).trans (hc k hlt 0 _ rfl)
          have c1 : wr.cell? ⟨b, o + k * 8 + 1, none⟩ = some (.int .i64 qs[k].f) := (hb.cell hbl).trans (hc k hlt 1 _ rfl)
          have c2 : wr.cell? ⟨b, o + k * 8 + 2, none⟩ = some (.int .i64 qs[k].t) := (hb.cell hbl).trans (hc k hlt 2 _ rfl)
          have c3 : wr.cell? ⟨b, o + k * 8 + 3, none⟩ = some (.int .i64 qs[k].w) := (hb.cell hbl).trans (hc k hlt 3 _ rfl)
          have c4 : wr.cell? ⟨b, o + k * 8 + 4, none⟩ = some (.int .i64 qs[k].s) := (hb.cell hbl).trans (hc k hlt 4 _ rfl)
          have c5 : wr.cell? ⟨b, o + k * 8 + 5, none⟩ = some (.int .i64 qs[k].h) := (hb.cell hbl).trans (hc k hlt 5 _ rfl)
          have c6 : wr.cell? ⟨b, o + k * 8 + 6, none⟩ = some (.int .i64 qs[k].c) := (hb.cell hbl).trans (hc k hlt 6 _ rfl)
          have c7 : wr.cell? ⟨b, o + k * 8 + 7, none⟩ = some (.bool qs[k].y) := (hb.cell hbl).trans (hc k hlt 7 _ rfl)
          have d0 : wr.cell? ⟨b', o' + k * 8, none⟩ = some (.int .i64 qs[k].k) := (hb.cell hbl').trans (hc' k hlt 0 _ rfl)
          have d1 : wr.cell? ⟨b', o' + k * 8 + 1, none⟩ = some (.int .i64 qs[k].f) := (hb.cell hbl').trans (hc' k hlt 1 _ rfl)
          have d2 : wr.cell? ⟨b', o' + k * 8 + 2, none⟩ = some (.int .i64 qs[k].t) := (hb.cell hbl').trans (hc' k hlt 2 _ rfl)
          have d3 : wr.cell? ⟨b', o' + k * 8 + 3, none⟩ = some (.int .i64 qs[k].w) := (hb.cell hbl').trans (hc' k hlt 3 _ rfl)
          have d4 : wr.cell? ⟨b', o' + k * 8 + 4, none⟩ = some (.int .i64 qs[k].s) := (hb.cell hbl').trans (hc' k hlt 4 _ rfl)
          have d5 : wr.cell? ⟨b', o' + k * 8 + 5, none⟩ = some (.int .i64 qs[k].h) := (hb.cell hbl').trans (hc' k hlt 5 _ rfl)
          have d6 : wr.cell? ⟨b', o' + k * 8 + 6, none⟩ = some (.int .i64 qs[k].c) := (hb.cell hbl').trans (hc' k hlt 6 _ rfl)
          have d7 : wr.cell? ⟨b', o' + k * 8 + 7, none⟩ = some (.bool qs[k].y) := (hb.cell hbl').trans (hc' k hlt 7 _ rfl)
          clear hc hc'
          generalize qs[k].k = x0 at *
          generalize qs[k].f = x1 at *
          generalize qs[k].t = x2 at *
          generalize qs[k].w = x3 at *
          generalize qs[k].s = x4 at *
          generalize qs[k].h = x5 at *
          generalize qs[k].c = x6 at *
          generalize qs[k].y = x7 at *
          go_wp2_with fail
          go_quiet (fail)
          go_wp2_with fail
          go_roundw
          case rel => exact ⟨k + 1, by omega, by simp, below_drewN hb _⟩
          case measure => simp [intOf]; omega
    · have hge : ¬ (k : Int) < qs.length := by omega
      go_wp2_with fail
      go_ret
      exact ⟨rfl, hb⟩
end Go.Proofs.YthcphnifnfnceaaGreatDoor

namespace Go.Proofs.YthcphnifnfnceaaGreatDoor
open Go.RowKit Go.Shelf

set_option maxRecDepth 100000 in
set_option maxHeartbeats 4000000 in
theorem two_any (w : World) : Calls Tryz.prog 29 #[] w fun e w' => (∃ v, e = .returned v ∧ ItsAt w' v twoL) ∧ Below w.heap.size w w' := by
  go_enter Tryz.func29, Tryz.ntmps29
  go_wp2_with fail
  go_ret
  exact ⟨⟨_, rfl, rec_new itL_len w 51 twoL⟩, (Below.refl w.heap.size w).alloc (Nat.le_refl _) _⟩
set_option maxRecDepth 100000 in
set_option maxHeartbeats 4000000 in
theorem wideIs (v : Value) (l : List It) (x y z t : Int) (w : World) (hS : ItsAt w v l) (he : wiE l x y z = 0) :
    Calls Tryz.prog 30 #[v, .int .i64 x, .int .i64 y, .int .i64 z, .int .i64 t] w fun e w' => e = .returned (.bool (wiV l x y z == t)) ∧ Below w.heap.size w w' := by
  have hc := iwidth_any v l x y z w hS
  rw [he] at hc
  obtain ⟨a, cap, rfl, -⟩ := hS.ex
  have hc' : Hid (Calls Tryz.prog 18 #[.slice a l.length cap, .int .i64 x, .int .i64 y, .int .i64 z] w fun e w' => e = .returned (.tuple #[.int .i64 (wiV l x y z), .int .i64 0]) ∧ Below w.heap.size w w') := hc
  clear hc
  generalize wiV l x y z = r at *
  go_enter Tryz.func30, Tryz.ntmps30
  go_wp2_with (go_at_call 18; refine hc'.out.mono ?_; rintro e w2 ⟨rfl, hb⟩)
  go_ret
  exact ⟨rfl, hb⟩
def zeroP : Pa := ⟨⟨#[]⟩, .slice none 0 0, ⟨0, 0, 0, 0, 0, 0, 0, 0, 0, 0, 0, 0, 0, 0, 0, 0, 0⟩, ⟨#[]⟩, .slice none 0 0, [], []⟩
def rawP (t : ByteArray) : Pa := ⟨t, .slice none 0 0, plainP 8, ⟨#[]⟩, .slice none 0 0, [], []⟩
theorem of_mem (t : ByteArray) (w : World) : ∀ w2, Below (w.alloc (.cells (paC zeroP) 27)).heap.size (w.alloc (.cells (paC zeroP) 27)) w2 → ((w2.alloc (.cells (paC (ofP t (.slice (some ⟨w2.heap.size + 1, 0, none⟩) 1 1) 0)) 27)).alloc (.cells #[.int .i64 t.size, .int .i64 0, .int .i64 0, .int .i64 0] 92)).heap[w.heap.size]? = some (.cells (paC zeroP) 27 (0, 0)) ∧
      PaAt (((w2.alloc (.cells (paC (ofP t (.slice (some ⟨w2.heap.size + 1, 0, none⟩) 1 1) 0)) 27)).alloc (.cells #[.int .i64 t.size, .int .i64 0, .int .i64 0, .int .i64 0] 92)).setRow w.heap.size (paC (ofP t (.slice (some ⟨w2.heap.size + 1, 0, none⟩) 1 1) 0))) (ofP t (.slice (some ⟨w2.heap.size + 1, 0, none⟩) 1 1) 0) ∧ Below w.heap.size w (((w2.alloc (.cells (paC (ofP t (.slice (some ⟨w2.heap.size + 1, 0, none⟩) 1 1) 0)) 27)).alloc (.cells #[.int .i64 t.size, .int .i64 0, .int .i64 0, .int .i64 0] 92)).setRow w.heap.size (paC (ofP t (.slice (some ⟨w2.heap.size + 1, 0, none⟩) 1 1) 0))) := by
  intro w2 hb2
  have hB1 := (Below.refl w.heap.size w).alloc (Nat.le_refl _) (Obj.cells (paC zeroP) 27)
  have hP1 := PB.new w zeroP
  have hs1 : (w.alloc (.cells (paC zeroP) 27)).heap.size = w.heap.size + 1 := World.size_alloc _ _
  have h2 : w.heap.size < w2.heap.size := by have := hb2.size; omega
  have hr2 : w2.heap[w.heap.size]? = some (.cells (paC zeroP) 27 (0, 0)) := (hb2.block _ (by rw [hs1]; omega)).trans hP1.row
  have hBw : Below w.heap.size w w2 := hB1.trans (hb2.mono hB1.size)
  have hrec : RecAt 4 spL ((w2.alloc (.cells (paC (ofP t (.slice (some ⟨w2.heap.size + 1, 0, none⟩) 1 1) 0)) 27)).alloc (.cells #[.int .i64 t.size, .int .i64 0, .int .i64 0, .int .i64 0] 92)) (.slice (some ⟨w2.heap.size + 1, 0, none⟩) 1 1) [⟨t.size, 0, 0, 0⟩] := by
    have := rec_new spL_len (w2.alloc (.cells (paC (ofP t (.slice (some ⟨w2.heap.size + 1, 0, none⟩) 1 1) 0)) 27)) 92 [⟨t.size, 0, 0, 0⟩]
    rw [World.size_alloc] at this
    exact this
  have hr6 : ((w2.alloc (.cells (paC (ofP t (.slice (some ⟨w2.heap.size + 1, 0, none⟩) 1 1) 0)) 27)).alloc (.cells #[.int .i64 t.size, .int .i64 0, .int .i64 0, .int .i64 0] 92)).heap[w.heap.size]? = some (.cells (paC zeroP) 27 (0, 0)) := (Below.heap_alloc _ _ _ (by simp; omega)).trans ((Below.heap_alloc _ _ _ h2).trans hr2)
  have hT6 : Turns (fun k => k = w.heap.size) ((w2.alloc (.cells (paC (ofP t (.slice (some ⟨w2.heap.size + 1, 0, none⟩) 1 1) 0)) 27)).alloc (.cells #[.int .i64 t.size, .int .i64 0, .int .i64 0, .int .i64 0] 92)) (((w2.alloc (.cells (paC (ofP t (.slice (some ⟨w2.heap.size + 1, 0, none⟩) 1 1) 0)) 27)).alloc (.cells #[.int .i64 t.size, .int .i64 0, .int .i64 0, .int .i64 0] 92)).setRow w.heap.size (paC (ofP t (.slice (some ⟨w2.heap.size + 1, 0, none⟩) 1 1) 0))) := Turns.setRow (X := fun k => k = w.heap.size) _ rfl _
  have hB5 : Below w.heap.size w ((w2.alloc (.cells (paC (ofP t (.slice (some ⟨w2.heap.size + 1, 0, none⟩) 1 1) 0)) 27)).alloc (.cells #[.int .i64 t.size, .int .i64 0, .int .i64 0, .int .i64 0] 92)) := (hBw.alloc (by omega) _).alloc (by simp; omega) _
  refine ⟨hr6, ⟨rec_turns hrec hT6 (fun b o n c e => by cases e; omega), ⟨⟨none, 0, rfl, .inl rfl⟩, fun a n c e => by cases e; exact Nat.le_refl _⟩, by simp [ofP]⟩, hB5.trans (hT6.below hB5.size (fun k hk => by omega))⟩
end Go.Proofs.YthcphnifnfnceaaGreatDoor
