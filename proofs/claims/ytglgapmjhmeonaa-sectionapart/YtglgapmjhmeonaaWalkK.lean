/-
  What is proved here: when two lists of rectangles are the same; what Columns answers, and the document's own.
-/
import Derived.Test.YtglgapmjhmeonaaRegC
namespace Go.Proofs.Ytglgapmjhmeonaa
open Go.RowKit Go.Shelf

/-- Rectangles, in memory. -/
structure RcsAt (W : World) (v : Value) (rs : List Rc) : Prop where
  ex : ∃ a cap, v = .slice a rs.length cap ∧ (rs = [] ∨ ∃ b, a = some ⟨b, 0, none⟩ ∧ b < W.heap.size ∧ ∀ (i : Nat) (h : i < rs.length),
    W.cell? ⟨b, i * 4, none⟩ = some (.int .i64 rs[i].x) ∧ W.cell? ⟨b, i * 4 + 1, none⟩ = some (.int .i64 rs[i].y) ∧ W.cell? ⟨b, i * 4 + 2, none⟩ = some (.int .i64 rs[i].w) ∧ W.cell? ⟨b, i * 4 + 3, none⟩ = some (.int .i64 rs[i].h))
  few : rs.length ≤ 100
theorem RcsAt.below {W W' : World} {n : Nat} {v : Value} {rs : List Rc} (h : RcsAt W v rs) (hb : Below n W W') (hn : W.heap.size ≤ n) : RcsAt W' v rs := by
  obtain ⟨a, cap, rfl, h2⟩ := h.ex
  refine ⟨⟨a, cap, rfl, ?_⟩, h.few⟩
  rcases h2 with h2 | ⟨b, rfl, hlt, hc⟩
  · exact .inl h2
  · refine .inr ⟨b, rfl, (Array.getElem?_eq_some_iff.1 ((hb.block b (Nat.lt_of_lt_of_le hlt hn)).trans (Array.getElem?_eq_getElem hlt))).1, fun i hi => ?_⟩
    obtain ⟨c0, c1, c2, c3⟩ := hc i hi
    have hw : ∀ j v, W.cell? ⟨b, j, none⟩ = some v → W'.cell? ⟨b, j, none⟩ = some v := fun j v hv => by
      rw [← hv]; exact hb.cell (Nat.lt_of_lt_of_le hlt hn)
    exact ⟨hw _ _ c0, hw _ _ c1, hw _ _ c2, hw _ _ c3⟩

def rcRow (l : List Rc) : Array Value := (l.flatMap (fun r => (rcC r).toList)).toArray
theorem flat_len (qs : List Rc) : (qs.flatMap (fun r => (rcC r).toList)).length = qs.length * 4 := by
  induction qs with
  | nil => rfl
  | cons p r ih => simp [List.flatMap_cons, rcC] at ih ⊢; omega
theorem rcRow_size (l : List Rc) : (rcRow l).size = l.length * 4 := by rw [← flat_len]; simp [rcRow]
theorem rcRow_get (ps : List Rc) {i : Nat} (h : i < ps.length) (j : Nat) (hj : j < 4) : (rcRow ps)[i * 4 + j]? = (rcC ps[i])[j]? := by
  have hs : ps = ps.take i ++ (ps[i] :: ps.drop (i + 1)) := by simp
  unfold rcRow
  rw [List.getElem?_toArray]
  conv => lhs; rw [hs]
  rw [List.flatMap_append, List.flatMap_cons, List.getElem?_append_right (by rw [flat_len, List.length_take]; omega), flat_len, List.length_take, Nat.min_eq_left (by omega), List.getElem?_append_left (by simp [rcC]; omega), Array.getElem?_toList]
  congr 1; omega
theorem rcRow_set (l : List Rc) {k : Nat} (h : k < l.length) (q : Rc) : ((((rcRow l).setIfInBounds (k * 4) (.int .i64 q.x)).setIfInBounds (k * 4 + 1) (.int .i64 q.y)).setIfInBounds (k * 4 + 2) (.int .i64 q.w)).setIfInBounds (k * 4 + 3) (.int .i64 q.h) = rcRow (l.set k q) := by
  apply Array.ext_getElem?
  intro m
  have hz := rcRow_size l
  have hz' := rcRow_size (l.set k q)
  rw [List.length_set] at hz'
  by_cases hm : m < l.length * 4
  · obtain ⟨i, j, hj, rfl⟩ : ∃ i j, j < 4 ∧ m = i * 4 + j := ⟨m / 4, m % 4, by omega, by omega⟩
    have hi : i < l.length := by omega
    rw [rcRow_get (l.set k q) (by rw [List.length_set]; exact hi) j hj]
    by_cases hik : i = k
    · subst hik
      obtain rfl | rfl | rfl | rfl : j = 0 ∨ j = 1 ∨ j = 2 ∨ j = 3 := by omega
      all_goals (simp [Array.getElem?_setIfInBounds, rcC]; omega)
    · have e : (l.set k q)[i]'(by rw [List.length_set]; exact hi) = l[i] := List.getElem_set_ne (Ne.symm hik) _
      rw [e, ← rcRow_get l hi j hj]
      rw [Array.getElem?_setIfInBounds_ne (by omega), Array.getElem?_setIfInBounds_ne (by omega), Array.getElem?_setIfInBounds_ne (by omega), Array.getElem?_setIfInBounds_ne (by omega)]
  · rw [Array.getElem?_eq_none (by simp; omega), Array.getElem?_eq_none (by omega)]
theorem row_rcs {W : World} {g cap : Nat} {l : List Rc} (h : W.heap[g]? = some (.cells (rcRow l) 31 (0, 0))) (hf : l.length ≤ 100) : RcsAt W (.slice (some ⟨g, 0, none⟩) l.length cap) l := by
  refine ⟨⟨_, cap, rfl, .inr ⟨g, rfl, (Array.getElem?_eq_some_iff.1 h).1, fun i hi => ?_⟩⟩, hf⟩
  have hc : ∀ j v, j < 4 → (rcC l[i])[j]? = some v → W.cell? ⟨g, i * 4 + j, none⟩ = some v := fun j v hj hv => by
    rw [Lib.cell_of_heap h, rcRow_get l hi j hj, hv]
  exact ⟨hc 0 _ (by omega) rfl, hc 1 _ (by omega) rfl, hc 2 _ (by omega) rfl, hc 3 _ (by omega) rfl⟩
theorem own_rcs {W : World} {base : Nat} {v : Value} {l : List Rc} (h : W.ownsRow base 31 4 v l.length (l.flatMap (fun r => (rcC r).toList))) (hf : l.length ≤ 100) : RcsAt W v l := by
  rcases h.2 with ⟨rfl, hn⟩ | ⟨g, cap, cur, rfl, hb', hg, _⟩
  · have : l = [] := List.eq_nil_of_length_eq_zero hn
    exact ⟨⟨none, 0, by rw [hn], .inl this⟩, hf⟩
  · refine ⟨⟨_, cap, rfl, .inr ⟨g, rfl, (Array.getElem?_eq_some_iff.1 hg).1, fun i hi => ?_⟩⟩, hf⟩
    have hcs : ∀ j u, (l.flatMap (fun r => (rcC r).toList))[j]? = some u → W.cell? ⟨g, j, none⟩ = some u := fun j u hu => by
      have := h.cells (g := g) rfl j u hu
      rwa [addr_add0] at this
    have hc : ∀ j v, j < 4 → (rcC l[i])[j]? = some v → W.cell? ⟨g, i * 4 + j, none⟩ = some v := fun j v hj hv => by
      have := rcRow_get l hi j hj
      unfold rcRow at this
      rw [List.getElem?_toArray, hv] at this
      exact hcs _ _ this
    exact ⟨hc 0 _ (by omega) rfl, hc 1 _ (by omega) rfl, hc 2 _ (by omega) rfl, hc 3 _ (by omega) rfl⟩

theorem below_drewN {n : Nat} {w w' : World} (h : Below n w w') (q : Nat) : Below n w (w'.drewN q) := ⟨h.1, h.2, h.3, h.4, h.5⟩

set_option maxRecDepth 100000 in
set_option maxHeartbeats 2000000 in
theorem rects_same (v u : Value) (qs : List Rc) (w : World) (hS : RcsAt w v qs) (hR : RcsAt w u qs) :
    Calls Try.prog 17 #[v, u] w fun e w' => e = .returned (.bool true) ∧ Below w.heap.size w w' := by
  obtain ⟨a, cap, rfl, h2⟩ := hS.ex
  obtain ⟨a', cap', rfl, h3⟩ := hR.ex
  have hlen := hS.few
  clear hS hR
  go_enter Try.func17, Try.ntmps17
  go_wp2_with fail
  go_loopw [5] (fun i wr => ∃ k : Nat, k ≤ qs.length ∧ i = .int .i64 k ∧ Below w.heap.size w wr) (fun i _ => qs.length - (intOf i).toNat)
  case atStart => exact ⟨0, by omega, rfl, Below.refl _ _⟩
  case round =>
    obtain ⟨k, hk, rfl, hb⟩ := hrel
    by_cases hlt : k < qs.length
    · rcases h2 with h2 | ⟨b, rfl, hbl, hc⟩
      · rw [h2] at hlt; simp at hlt
      · rcases h3 with h3 | ⟨b', rfl, hbl', hc'⟩
        · rw [h3] at hlt; simp at hlt
        · obtain ⟨c0, c1, c2, c3⟩ := hc k hlt
          obtain ⟨e0, e1, e2, e3⟩ := hc' k hlt
          have d0 : wr.cell? _ = _ := (hb.cell hbl).trans c0
          have d1 : wr.cell? _ = _ := (hb.cell hbl).trans c1
          have d2 : wr.cell? _ = _ := (hb.cell hbl).trans c2
          have d3 : wr.cell? _ = _ := (hb.cell hbl).trans c3
          have f0 : wr.cell? _ = _ := (hb.cell hbl').trans e0
          have f1 : wr.cell? _ = _ := (hb.cell hbl').trans e1
          have f2 : wr.cell? _ = _ := (hb.cell hbl').trans e2
          have f3 : wr.cell? _ = _ := (hb.cell hbl').trans e3
          clear c0 c1 c2 c3 hc e0 e1 e2 e3 hc'
          generalize qs[k].x = x0 at *
          generalize qs[k].y = x1 at *
          generalize qs[k].w = x2 at *
          generalize qs[k].h = x3 at *
          go_wp2_with fail
          go_quiet (fail)
          rename_i nq
          go_wp2_with fail
          go_roundw
          case rel => exact ⟨k + 1, by omega, by simp, below_drewN hb _⟩
          case measure => simp [intOf]; omega
    · have hge : ¬ (k : Int) < qs.length := by omega
      go_wp2_with fail
      go_ret
      exact ⟨rfl, hb⟩

def colsL (s : Sec) (page : Int) : List Rc := (List.range s.cols.toNat).map (fun i : Nat => colR s page i)
theorem colsL_len (s : Sec) (page : Int) : (colsL s page).length = s.cols.toNat := by simp [colsL]
theorem colsL_get (s : Sec) (page : Int) {i : Nat} (h : i < (colsL s page).length) : (colsL s page)[i] = colR s page i := by simp [colsL]
theorem flatL_succ (l : List Rc) {k : Nat} (h : k < l.length) : (l.take (k + 1)).flatMap (fun r => (rcC r).toList) = (l.take k).flatMap (fun r => (rcC r).toList) ++ (rcC l[k]).toList := by
  rw [List.take_succ_eq_append_getElem h, List.flatMap_append]; simp

set_option maxRecDepth 100000 in
set_option maxHeartbeats 2000000 in
theorem rcolumns_any (s : Sec) (hn : NumOk s) (page : Int) (w : World) : Calls Try.prog 18 #[seV s, .int .i64 page] w fun e w' => ∃ v, e = .returned v ∧ RcsAt w' v (colsL s page) ∧ Below w.heap.size w w' := by
  have hB := (Below.refl w.heap.size w).alloc (Nat.le_refl _) (Obj.cells (seC s) 24)
  have hS := SB.new w s
  have hcb := hn.cols
  obtain ⟨n, hnc⟩ : ∃ n : Nat, s.cols = n := ⟨s.cols.toNat, by omega⟩
  have hlen : Hid ((colsL s page).length = n) := by show (colsL s page).length = n; rw [colsL_len]; omega
  have hget : Hid (∀ (i : Nat) (h : i < (colsL s page).length), (colsL s page)[i] = colR s page i) := fun i h => colsL_get s page h
  have hn' : Hid (NumOk s) := hn
  have c6 := hS.c6
  rw [hnc] at c6 hcb
  have hsz : w.heap.size < (w.alloc (Obj.cells (seC s) 24)).heap.size := by simp
  clear hn hnc
  unfold seV
  go_enter Try.func18, Try.ntmps18
  go_wp2_with fail
  go_loopw [5, 6] (fun v i wr => ∃ k : Nat, k ≤ n ∧ i = .int .i64 k ∧ Below (w.heap.size + 1) (w.alloc (Obj.cells (seC s) 24)) wr ∧ Hid (wr.ownsRow (w.heap.size + 1) 31 4 v k (((colsL s page).take k).flatMap (fun r => (rcC r).toList)))) (fun _ i _ => n - (intOf i).toNat)
  case atStart => exact ⟨0, by omega, rfl, Below.refl _ _, World.ownsRow_nil _ _ _ _⟩
  case round =>
    obtain ⟨k, hk, rfl, hb, hrow⟩ := hrel
    have hSr := hS.below hb (by omega)
    have hbs : w.heap.size + 1 ≤ wr.heap.size := by have := hb.size; simp at this; omega
    have c6r := hSr.c6
    have c6w : wr.cell? ⟨w.heap.size, 6, none⟩ = some (.int .i64 (n : Int)) := (hb.cell (p := ⟨w.heap.size, 6, none⟩) (by show w.heap.size < w.heap.size + 1; omega)).trans c6
    clear c6r
    by_cases hlt : k < n
    · have hltI : (k : Int) < n := by omega
      go_wp2_with fail
      refine rcols_region _ (fun _ _ _ _ _ h => h) _ _ w.heap.size (w.heap.size + 1) k _ _ s page k hn'.out (by omega) (by omega) _ hSr (by omega) hbs hrow.out ?_
      intro b v' w' B1 hown
      have hl := hlen.out
      rw [← hget.out k (by omega), ← flatL_succ (colsL s page) (by omega)] at hown
      have hown' : Hid (w'.ownsRow (w.heap.size + 1) 31 4 v' (k + 1) (((colsL s page).take (k + 1)).flatMap (fun r => (rcC r).toList))) := hown
      clear hown hl
      unfold fr18
      go_wp2_with fail
      go_roundw
      case rel => exact ⟨k + 1, by omega, by simp, hb.trans B1, hown'⟩
      case measure => simp [intOf]; omega
    · have hge : ¬ (k : Int) < n := by omega
      have hkn : k = n := by omega
      have hl := hlen.out
      have h := hrow.out
      rw [hkn, ← hl, List.take_length] at h
      have hr := own_rcs h (by omega)
      have hr' : Hid (RcsAt wr _ (colsL s page)) := hr
      have hfin : Below w.heap.size w wr := hB.trans (hb.mono (by omega))
      clear h hr hl hkn hrow
      go_wp2_with fail
      go_ret
      exact ⟨_, rfl, hr'.out, hfin⟩
end Go.Proofs.Ytglgapmjhmeonaa
