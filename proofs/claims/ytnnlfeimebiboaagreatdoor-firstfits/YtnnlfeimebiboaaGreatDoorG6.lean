/-
  What is proved here: what keeps, mayNotBe, Check, Slot of first and the document's slot, Check, Slot answer of any profile.
  What is proved here: what begin, upTo, legal, width, next of first answer.
-/
import Derived.Test.YtnnlfeimebiboaaGreatDoorG5
import Derived.Test.YtnnlfeimebiboaaGreatDoorG4
namespace Go.Proofs.YtnnlfeimebiboaaGreatDoor
open Go.RowKit Go.Shelf

set_option maxRecDepth 100000 in
theorem fkeeps_any (n : Int) (w : World) : Calls Tryz.prog 45 #[.int .i64 n] w fun e w' => e = .returned (.bool (keB n 4095)) ∧ w' = w := by
  unfold keB
  by_cases h1 : 0 ≤ n
  · by_cases h2 : n ≤ 4095
    · rw [decide_eq_true ⟨h1, h2⟩]
      go_enter Tryz.func45, Tryz.ntmps45
      go_wp2
      go_ret
      exact ⟨rfl, rfl⟩
    · rw [decide_eq_false (by omega)]
      go_enter Tryz.func45, Tryz.ntmps45
      go_wp2
      go_ret
      exact ⟨rfl, rfl⟩
  · rw [decide_eq_false (by omega)]
    go_enter Tryz.func45, Tryz.ntmps45
    go_wp2
    go_ret
    exact ⟨rfl, rfl⟩
theorem okS_is (x y : Int) : okS ⟨x, y⟩ = (keB x 4095 && keB y 4095) := by
  unfold okS keB
  simp [Bool.decide_and]

set_option maxRecDepth 100000 in
set_option maxHeartbeats 2000000 in
theorem mayNot_any (s : Sl) (w : World) : Calls Tryz.prog 28 #[.agg (slL s).toArray] w fun e w' => e = .returned (.bool (!okS s)) ∧ Below w.heap.size w w' := by
  obtain ⟨x, y⟩ := s
  rw [okS_is]
  have hB := (Below.refl w.heap.size w).alloc (Nat.le_refl _) (.cells #[.int .i64 x, .int .i64 y] 25)
  have hx := fkeeps_any x (w.alloc (.cells #[.int .i64 x, .int .i64 y] 25))
  have hy := fkeeps_any y (w.alloc (.cells #[.int .i64 x, .int .i64 y] 25))
  show Calls Tryz.prog 28 #[.agg #[.int .i64 x, .int .i64 y]] w _
  cases h1 : keB x 4095 with
  | true =>
    cases h2 : keB y 4095 with
    | true =>
      rw [h1] at hx; rw [h2] at hy
      go_enter Tryz.func28, Tryz.ntmps28
      go_wp2_with (go_at_call 45; first | (with_reducible refine hx.mono ?_; rintro e w' ⟨rfl, rfl⟩) | (with_reducible refine hy.mono ?_; rintro e w' ⟨rfl, rfl⟩))
      go_ret
      exact ⟨rfl, hB⟩
    | false =>
      rw [h1] at hx; rw [h2] at hy
      go_enter Tryz.func28, Tryz.ntmps28
      go_wp2_with (go_at_call 45; first | (with_reducible refine hx.mono ?_; rintro e w' ⟨rfl, rfl⟩) | (with_reducible refine hy.mono ?_; rintro e w' ⟨rfl, rfl⟩))
      go_ret
      exact ⟨rfl, hB⟩
  | false =>
    rw [h1] at hx
    clear hy
    go_enter Tryz.func28, Tryz.ntmps28
    go_wp2_with (go_at_call 45; refine hx.mono ?_; rintro e w' ⟨rfl, rfl⟩)
    go_ret
    exact ⟨rfl, hB⟩
theorem sls_at {W : World} {a : Option Addr} {n cap : Nat} {ss : List Sl} (h : SlsAt W (.slice a n cap) ss) {i : Nat} (hi : i < ss.length) :
    ∃ b o, a = some ⟨b, o, none⟩ ∧ b < W.heap.size ∧ ∀ W', Below W.heap.size W W' → W'.cell? ⟨b, o + i * 2, none⟩ = some (.int .i64 ss[i].x) ∧ W'.cell? ⟨b, o + i * 2 + 1, none⟩ = some (.int .i64 ss[i].w) := by
  obtain ⟨a', cap', h1, h2⟩ := h.ex
  cases h1
  rcases h2 with h2 | ⟨b, o, rfl, hb, hc⟩
  · subst h2; simp at hi
  · exact ⟨b, o, rfl, hb, fun W' hW => ⟨(hW.cell hb).trans (hc i hi 0 _ rfl), (hW.cell hb).trans (hc i hi 1 _ rfl)⟩⟩
theorem sall_no {ss : List Sl} {i : Nat} (hi : i < ss.length) (h : okS ss[i] = false) : ss.all okS = false := by
  rw [List.all_eq_false]
  exact ⟨ss[i], List.getElem_mem hi, by rw [h]; decide⟩
theorem sall_yes {ss : List Sl} (h : ∀ i (hi : i < ss.length), okS ss[i] = true) : ss.all okS = true := by
  rw [List.all_eq_true]
  intro x hx
  obtain ⟨i, hi, rfl⟩ := List.getElem_of_mem hx
  exact h i hi

set_option maxRecDepth 100000 in
set_option maxHeartbeats 2000000 in
theorem sindex_any (v : Value) (l : List Sl) (hl : l.length ≤ 9223372036854775807) (w : World) (hS : SlsAt w v l) :
    Calls Tryz.prog 46 #[v, .func (.func 28) #[] #[]] w fun e w' => (∃ n : Int, e = .returned (.int .i64 n) ∧ decide (0 ≤ n) = !l.all okS) ∧ Below w.heap.size w w' := by
  obtain ⟨a, cap, rfl, -⟩ := hS.ex
  have hY : Hid (∀ k (hk : k < l.length), okS l[k] = false → decide ((0 : Int) ≤ (k : Nat)) = !l.all okS) := fun k hk e => by rw [sall_no hk e]; simp
  have hN : Hid ((∀ k (hk : k < l.length), okS l[k] = true) → decide ((0 : Int) ≤ -1) = !l.all okS) := fun h => by rw [sall_yes h]; simp
  have hSh : Hid (SlsAt w (.slice a l.length cap) l) := hS
  clear hS
  generalize (!l.all okS) = r at hY hN ⊢
  go_enter Tryz.func46, Tryz.ntmps46
  go_wp2_with fail
  go_loopw [8] (fun i wr => ∃ (k : Nat), k ≤ l.length ∧ i = .int .i64 k ∧ Below w.heap.size w wr ∧ Hid (∀ j (hj : j < l.length), j < k → okS l[j] = true)) (fun i _ => l.length - (intOf i).toNat)
  case atStart => exact ⟨0, by omega, rfl, Below.refl _ _, fun j _ hj => by omega⟩
  case round =>
    obtain ⟨k, hk, rfl, hb, hall⟩ := hrel
    by_cases hlt : k < l.length
    · obtain ⟨b, o, rfl, hbl, hit⟩ := sls_at hSh.out hlt
      obtain ⟨c0, c1⟩ := hit wr hb
      have hlt' : (k : Int) < l.length := by omega
      have hm := mayNot_any l[k] wr
      have hyes : Hid (okS l[k] = false → decide ((0 : Int) ≤ (k : Nat)) = r) := hY.out k hlt
      have hno : Hid (okS l[k] = true → ∀ j (hj : j < l.length), j < k + 1 → okS l[j] = true) := fun hv j hj hjk => by
        by_cases h : j < k
        · exact hall.out j hj h
        · obtain rfl : j = k := by omega
          exact hv
      clear hY hN hall hit hSh
      generalize l[k] = it at *
      obtain ⟨x0, y0⟩ := it
      simp only at c0 c1
      have hm' : Hid (Calls Tryz.prog 28 #[.agg #[.int .i64 x0, .int .i64 y0]] wr fun e w' => e = .returned (.bool (!okS ⟨x0, y0⟩)) ∧ Below wr.heap.size wr w') := hm
      clear hm
      cases hv : okS ⟨x0, y0⟩ with
      | false =>
        have hn' : Hid (decide ((0 : Int) ≤ (k : Nat)) = r) := hyes.out hv
        rw [hv] at hm'
        clear hyes hno hv
        go_wp2_with (go_at_call 28; refine hm'.out.mono ?_; rintro e w' ⟨rfl, hb2⟩)
        go_ret
        exact ⟨⟨_, rfl, hn'.out⟩, hb.trans (hb2.mono hb.size)⟩
      | true =>
        have hn : Hid (∀ j (hj : j < l.length), j < k + 1 → okS l[j] = true) := hno.out hv
        rw [hv] at hm'
        clear hyes hno hv
        go_wp2_with (go_at_call 28; refine hm'.out.mono ?_; rintro e w' ⟨rfl, hb2⟩)
        go_roundw
        case rel => exact ⟨k + 1, by omega, by simp, hb.trans (hb2.mono hb.size), hn⟩
        case measure => simp [intOf]; omega
    · have hn' : Hid (decide ((0 : Int) ≤ -1) = r) := hN.out (fun j hj => hall.out j hj (by omega))
      have hge : ¬ (k : Int) < l.length := by omega
      clear hY hN hall hSh
      go_wp2_with fail
      go_ret
      exact ⟨⟨_, rfl, hn'.out⟩, hb⟩

set_option maxRecDepth 100000 in
set_option maxHeartbeats 2000000 in
theorem fcheck_any (v : Value) (l : List Sl) (r : Sl) (hl : l.length ≤ 9223372036854775807) (w : World) (hS : SlsAt w v l) :
    Calls Tryz.prog 11 #[v, .agg (slL r).toArray] w fun e w' => e = .returned (.int .i64 (ckS l r)) ∧ Below w.heap.size w w' := by
  have hB := (Below.refl w.heap.size w).alloc (Nat.le_refl _) (.cells (slL r).toArray 25)
  have hS1 := hS.below hB (Nat.le_refl _)
  have hm : Hid (Calls Tryz.prog 28 #[.agg (slL r).toArray] (w.alloc (.cells (slL r).toArray 25)) fun e w' => e = .returned (.bool (!okS r)) ∧ Below (w.alloc (.cells (slL r).toArray 25)).heap.size (w.alloc (.cells (slL r).toArray 25)) w') := mayNot_any r _
  have hc : Hid (∀ W, Below (w.alloc (.cells (slL r).toArray 25)).heap.size (w.alloc (.cells (slL r).toArray 25)) W → Calls Tryz.prog 29 #[v, .func (.func 28) #[] #[]] W fun e w' => e = .returned (.bool (!l.all okS)) ∧ Below W.heap.size W w') := fun W hW => by
    have hi : Hid (Calls Tryz.prog 46 #[v, .func (.func 28) #[] #[]] W fun e w' => (∃ n : Int, e = .returned (.int .i64 n) ∧ decide (0 ≤ n) = !l.all okS) ∧ Below W.heap.size W w') := sindex_any v l hl W (hS1.below hW (Nat.le_refl _))
    obtain ⟨a, cap, rfl, -⟩ := hS.ex
    show Calls Tryz.prog 29 _ _ _
    clear hS hS1 hm hB
    generalize (!l.all okS) = q at *
    go_enter Tryz.func29, Tryz.ntmps29
    go_wp2_with (go_at_call 46; refine hi.out.mono ?_; rintro e w' ⟨⟨n, rfl, hn⟩, hb2⟩)
    go_ret
    exact ⟨by rw [← hn]; rfl, hb2⟩
  obtain ⟨a, cap, rfl, -⟩ := hS.ex
  clear hS hS1
  have hck : Hid (ckS l r = if 256 < l.length then 3 else if okS r = true ∧ l.all okS = true then 0 else 2) := rfl
  generalize hk : ckS l r = ck at *
  obtain ⟨x, y⟩ := r
  unfold slL at *
  simp only at *
  generalize hw1 : w.alloc (.cells [Value.int .i64 x, .int .i64 y].toArray 25) = w1 at *
  have hx1 : w1.cell? ⟨w.heap.size, 0, none⟩ = some (.int .i64 x) := by rw [← hw1, Lib.cell_of_heap (World.alloc_heap_new w _)]; rfl
  have hy1 : w1.cell? ⟨w.heap.size, 1, none⟩ = some (.int .i64 y) := by rw [← hw1, Lib.cell_of_heap (World.alloc_heap_new w _)]; rfl
  by_cases h1 : 256 < l.length
  · have h1' : (256 : Int) < l.length := by omega
    have e : ck = 3 := by rw [hck.out, if_pos h1]
    subst e
    clear hm hc hck
    go_enter Tryz.func11, Tryz.ntmps11
    go_wp2_with fail
    go_ret
    exact ⟨rfl, hB⟩
  · have h1' : ¬ (256 : Int) < l.length := by omega
    have e : Hid (ck = if okS ⟨x, y⟩ = true ∧ l.all okS = true then 0 else 2) := by show ck = _; rw [hck.out, if_neg h1]
    clear hck h1
    cases ho : okS ⟨x, y⟩ with
    | false =>
      have e2 : ck = 2 := by rw [e.out, ho, if_neg (by simp)]
      subst e2
      rw [ho] at hm
      clear e ho hc
      go_enter Tryz.func11, Tryz.ntmps11
      go_wp2_with (go_at_call 28; refine hm.out.mono ?_; rintro e w' ⟨rfl, hb2⟩)
      go_ret
      exact ⟨rfl, hB.trans (hb2.mono hB.size)⟩
    | true =>
      rw [ho] at hm
      cases ha : l.all okS with
      | false =>
        have e2 : ck = 2 := by rw [e.out, ho, ha, if_neg (by simp)]
        subst e2
        rw [ha] at hc
        clear e ho ha
        go_enter Tryz.func11, Tryz.ntmps11
        go_wp2_with (first | (go_at_call 28; refine hm.out.mono ?_; rintro e w2 ⟨rfl, hb2⟩) | (go_at_call 29; refine (hc.out w2 hb2).mono ?_; rintro e w3 ⟨rfl, hb3⟩))
        go_ret
        exact ⟨rfl, hB.trans ((hb2.trans (hb3.mono hb2.size)).mono hB.size)⟩
      | true =>
        have e2 : ck = 0 := by rw [e.out, ho, ha, if_pos (by simp)]
        subst e2
        rw [ha] at hc
        clear e ho ha
        go_enter Tryz.func11, Tryz.ntmps11
        go_wp2_with (first | (go_at_call 28; refine hm.out.mono ?_; rintro e w2 ⟨rfl, hb2⟩) | (go_at_call 29; refine (hc.out w2 hb2).mono ?_; rintro e w3 ⟨rfl, hb3⟩))
        go_ret
        exact ⟨rfl, hB.trans ((hb2.trans (hb3.mono hb2.size)).mono hB.size)⟩

theorem below2 (w : World) (x y : Obj) : Below w.heap.size w ((w.alloc x).alloc y) := ((Below.refl w.heap.size w).alloc (Nat.le_refl _) x).alloc (by simp) y

theorem alloc2_heap (w : World) (x y : Obj) : ((w.alloc x).alloc y).heap[w.heap.size + 1]? = some y := by
  have := World.alloc_heap_new (w.alloc x) y
  rwa [World.size_alloc] at this
theorem info25 (x y : Value) : (Tryz.prog.info? 25).map (·.size) = some (#[x, y] : Array Value).size := by show _ = some 2; kernel_rfl

set_option maxRecDepth 100000 in
set_option maxHeartbeats 2000000 in
theorem fslot_any (v : Value) (l : List Sl) (r : Sl) (n : Int) (_hl : l.length ≤ 9223372036854775807) (w : World) (hS : SlsAt w v l) :
    Calls Tryz.prog 13 #[v, .agg (slL r).toArray, .int .i64 n] w fun e w' => e = .returned (.agg (slL (slI l r n)).toArray) ∧ Below w.heap.size w w' := by
  obtain ⟨x, y⟩ := r
  obtain ⟨a, cap, rfl, -⟩ := hS.ex
  have hSh : Hid (SlsAt w (.slice a l.length cap) l) := hS
  clear hS
  show Calls Tryz.prog 13 #[.slice a l.length cap, .agg #[.int .i64 x, .int .i64 y], .int .i64 n] w _
  by_cases h0 : n < 0
  · have e : slI l ⟨x, y⟩ n = ⟨0, 0⟩ := if_pos h0
    rw [e]
    clear e hSh
    go_enter Tryz.func13, Tryz.ntmps13
    go_wp2_with fail
    exact bodyPost_ret (results_cell_row rfl _ _ (w.heap.size + 1) 25 _ (0, 0) _ rfl (alloc2_heap w _ _) Tryz.underlying25 rfl (info25 _ _)) rfl ⟨rfl, below2 w _ _⟩
  · obtain ⟨k, rfl⟩ : ∃ k : Nat, n = k := ⟨n.toNat, by omega⟩
    rw [slI_nat]
    by_cases hk : k < l.length
    · rw [slN_in hk]
      have hk' : (k : Int) < l.length := by omega
      obtain ⟨b, o, rfl, hbl, hit⟩ := sls_at hSh.out hk
      obtain ⟨c0, c1⟩ := hit _ (below2 w (.cells #[.int .i64 x, .int .i64 y] 25) (.cells #[.int .i64 0, .int .i64 0] 25))
      clear hit hSh
      generalize l[k] = s at *
      obtain ⟨x1, y1⟩ := s
      simp only at c0 c1
      go_enter Tryz.func13, Tryz.ntmps13
      go_wp2_with fail
      exact bodyPost_ret (results_cell_row rfl _ _ (w.heap.size + 1) 25 _ (0, 0) _ rfl (alloc2_heap w _ _) Tryz.underlying25 rfl (info25 _ _)) rfl ⟨rfl, below2 w _ _⟩
    · rw [slN_out (by omega)]
      have hk' : ¬ (k : Int) < l.length := by omega
      clear hSh
      go_enter Tryz.func13, Tryz.ntmps13
      go_wp2_with fail
      exact bodyPost_ret (results_cell_row rfl _ _ (w.heap.size + 1) 25 _ (0, 0) _ rfl (alloc2_heap w _ _) Tryz.underlying25 rfl (info25 _ _)) rfl ⟨rfl, below2 w _ _⟩

set_option maxRecDepth 100000 in
set_option maxHeartbeats 2000000 in
theorem rfslot_any (v : Value) (l : List Sl) (r : Sl) (n : Int) (_hl : l.length ≤ 9223372036854775807) (w : World) (hS : SlsAt w v l) :
    Calls Tryz.prog 14 #[v, .agg (slL r).toArray, .int .i64 n] w fun e w' => e = .returned (.agg (slL (slI l r n)).toArray) ∧ Below w.heap.size w w' := by
  obtain ⟨x, y⟩ := r
  obtain ⟨a, cap, rfl, -⟩ := hS.ex
  have hSh : Hid (SlsAt w (.slice a l.length cap) l) := hS
  clear hS
  show Calls Tryz.prog 14 #[.slice a l.length cap, .agg #[.int .i64 x, .int .i64 y], .int .i64 n] w _
  by_cases h0 : n < 0
  · have e : slI l ⟨x, y⟩ n = ⟨0, 0⟩ := if_pos h0
    rw [e]
    clear e hSh
    go_enter Tryz.func14, Tryz.ntmps14
    go_wp2_with fail
    exact bodyPost_ret (results_cell_row rfl _ _ (w.heap.size + 1) 25 _ (0, 0) _ rfl (alloc2_heap w _ _) Tryz.underlying25 rfl (info25 _ _)) rfl ⟨rfl, below2 w _ _⟩
  · obtain ⟨k, rfl⟩ : ∃ k : Nat, n = k := ⟨n.toNat, by omega⟩
    rw [slI_nat]
    by_cases hk : k < l.length
    · rw [slN_in hk]
      have hk' : (k : Int) < l.length := by omega
      obtain ⟨b, o, rfl, hbl, hit⟩ := sls_at hSh.out hk
      obtain ⟨c0, c1⟩ := hit _ (below2 w (.cells #[.int .i64 x, .int .i64 y] 25) (.cells #[.int .i64 0, .int .i64 0] 25))
      clear hit hSh
      generalize l[k] = s at *
      obtain ⟨x1, y1⟩ := s
      simp only at c0 c1
      go_enter Tryz.func14, Tryz.ntmps14
      go_wp2_with fail
      exact bodyPost_ret (results_cell_row rfl _ _ (w.heap.size + 1) 25 _ (0, 0) _ rfl (alloc2_heap w _ _) Tryz.underlying25 rfl (info25 _ _)) rfl ⟨rfl, below2 w _ _⟩
    · rw [slN_out (by omega)]
      have hk' : ¬ (k : Int) < l.length := by omega
      clear hSh
      go_enter Tryz.func14, Tryz.ntmps14
      go_wp2_with fail
      exact bodyPost_ret (results_cell_row rfl _ _ (w.heap.size + 1) 25 _ (0, 0) _ rfl (alloc2_heap w _ _) Tryz.underlying25 rfl (info25 _ _)) rfl ⟨rfl, below2 w _ _⟩

set_option maxRecDepth 100000 in
set_option maxHeartbeats 2000000 in
theorem rslotB_any (s : Sl) (w : World) : Calls Tryz.prog 30 #[.agg (slL s).toArray] w fun e w' => e = .returned (.bool (okS s)) ∧ Below w.heap.size w w' := by
  obtain ⟨x, y⟩ := s
  rw [okS_is]
  have hB := (Below.refl w.heap.size w).alloc (Nat.le_refl _) (.cells #[.int .i64 x, .int .i64 y] 25)
  show Calls Tryz.prog 30 #[.agg #[.int .i64 x, .int .i64 y]] w _
  unfold keB
  by_cases h1 : 0 ≤ x
  · by_cases h2 : x ≤ 4095
    · by_cases h3 : 0 ≤ y
      · by_cases h4 : y ≤ 4095
        · rw [decide_eq_true ⟨h1, h2⟩, decide_eq_true ⟨h3, h4⟩]
          go_enter Tryz.func30, Tryz.ntmps30
          go_wp2_with fail
          go_ret
          exact ⟨rfl, hB⟩
        · rw [decide_eq_true ⟨h1, h2⟩, decide_eq_false (by omega)]
          go_enter Tryz.func30, Tryz.ntmps30
          go_wp2_with fail
          go_ret
          exact ⟨rfl, hB⟩
      · rw [decide_eq_true ⟨h1, h2⟩, decide_eq_false (by omega)]
        go_enter Tryz.func30, Tryz.ntmps30
        go_wp2_with fail
        go_ret
        exact ⟨rfl, hB⟩
    · rw [decide_eq_false (by omega)]
      go_enter Tryz.func30, Tryz.ntmps30
      go_wp2_with fail
      go_ret
      exact ⟨rfl, hB⟩
  · rw [decide_eq_false (by omega)]
    go_enter Tryz.func30, Tryz.ntmps30
    go_wp2_with fail
    go_ret
    exact ⟨rfl, hB⟩

set_option maxRecDepth 100000 in
set_option maxHeartbeats 2000000 in
theorem rfcheck_any (v : Value) (l : List Sl) (r : Sl) (hl : l.length ≤ 9223372036854775807) (w : World) (hS : SlsAt w v l) :
    Calls Tryz.prog 12 #[v, .agg (slL r).toArray] w fun e w' => e = .returned (.int .i64 (ckS l r)) ∧ Below w.heap.size w w' := by
  have hB := (Below.refl w.heap.size w).alloc (Nat.le_refl _) (.cells (slL r).toArray 25)
  have hS1 := hS.below hB (Nat.le_refl _)
  obtain ⟨a, cap, rfl, -⟩ := hS.ex
  clear hS
  have hck : Hid (ckS l r = if 256 < l.length then 3 else if okS r = true ∧ l.all okS = true then 0 else 2) := rfl
  generalize hk : ckS l r = ck at *
  clear hk
  obtain ⟨x, y⟩ := r
  have hm : Hid (∀ W, Calls Tryz.prog 30 #[.agg #[.int .i64 x, .int .i64 y]] W fun e w' => e = .returned (.bool (okS ⟨x, y⟩)) ∧ Below W.heap.size W w') := fun W => rslotB_any ⟨x, y⟩ W
  unfold slL at *
  simp only at *
  generalize hw1 : w.alloc (.cells [Value.int .i64 x, .int .i64 y].toArray 25) = w1 at *
  have hz : w.heap.size < w1.heap.size := by rw [← hw1]; simp
  have hx1 : w1.cell? ⟨w.heap.size, 0, none⟩ = some (.int .i64 x) := by rw [← hw1, Lib.cell_of_heap (World.alloc_heap_new w _)]; rfl
  have hy1 : w1.cell? ⟨w.heap.size, 1, none⟩ = some (.int .i64 y) := by rw [← hw1, Lib.cell_of_heap (World.alloc_heap_new w _)]; rfl
  have hSh : Hid (SlsAt w1 (.slice a l.length cap) l) := hS1
  clear hS1
  by_cases h1 : 256 < l.length
  · have h1' : (256 : Int) < l.length := by omega
    have e : ck = 3 := by rw [hck.out, if_pos h1]
    subst e
    clear hm hck
    go_enter Tryz.func12, Tryz.ntmps12
    go_wp2_with fail
    go_ret
    exact ⟨rfl, hB⟩
  · have h1' : ¬ (256 : Int) < l.length := by omega
    have e : Hid (ck = if okS ⟨x, y⟩ = true ∧ l.all okS = true then 0 else 2) := by show ck = _; rw [hck.out, if_neg h1]
    have hBh : Hid (Below w.heap.size w w1) := hB
    have hzh : Hid (w.heap.size < w1.heap.size) := hz
    clear hck h1 hB hz
    go_enter Tryz.func12, Tryz.ntmps12
    go_wp2_with fail
    go_loopw [5] (fun i wr => ∃ (k : Nat), k ≤ l.length ∧ i = .int .i64 k ∧ Below w1.heap.size w1 wr ∧ Hid (∀ j (hj : j < l.length), j < k → okS l[j] = true)) (fun i _ => l.length - (intOf i).toNat)
    case atStart => exact ⟨0, by omega, rfl, Below.refl _ _, fun j _ hj => by omega⟩
    case round =>
      obtain ⟨k, hk, rfl, hb, hall⟩ := hrel
      by_cases hlt : k < l.length
      · obtain ⟨b, o, rfl, hbl, hit⟩ := sls_at hSh.out hlt
        obtain ⟨c0, c1⟩ := hit wr hb
        have hlt' : (k : Int) < l.length := by omega
        have hm2 : Hid (Calls Tryz.prog 30 #[.agg (slL l[k]).toArray] wr fun e w' => e = .returned (.bool (okS l[k])) ∧ Below wr.heap.size wr w') := rslotB_any l[k] wr
        have hno : Hid (okS l[k] = true → ∀ j (hj : j < l.length), j < k + 1 → okS l[j] = true) := fun hv j hj hjk => by
          by_cases h : j < k
          · exact hall.out j hj h
          · obtain rfl : j = k := by omega
            exact hv
        have hyes : Hid (okS l[k] = false → ck = 2) := fun h => by rw [e.out, sall_no hlt h, if_neg (by simp)]
        clear hall hit hSh e hm
        generalize l[k] = it at *
        obtain ⟨x0, y0⟩ := it
        simp only at c0 c1
        replace hm2 : Hid (Calls Tryz.prog 30 #[.agg #[.int .i64 x0, .int .i64 y0]] wr fun e w' => e = .returned (.bool (okS ⟨x0, y0⟩)) ∧ Below wr.heap.size wr w') := hm2
        cases hv : okS ⟨x0, y0⟩ with
        | false =>
          have h2 := hyes.out hv
          subst h2
          rw [hv] at hm2
          clear hyes hno hv
          go_wp2_with (go_at_call 30; refine hm2.out.mono ?_; rintro e w' ⟨rfl, hb2⟩)
          go_ret
          exact ⟨rfl, hBh.out.trans ((hb.trans (hb2.mono hb.size)).mono hBh.out.size)⟩
        | true =>
          have hn : Hid (∀ j (hj : j < l.length), j < k + 1 → okS l[j] = true) := hno.out hv
          rw [hv] at hm2
          clear hyes hno hv
          go_wp2_with (go_at_call 30; refine hm2.out.mono ?_; rintro e w' ⟨rfl, hb2⟩)
          go_roundw
          case rel => exact ⟨k + 1, by omega, by simp, hb.trans (hb2.mono hb.size), hn⟩
          case measure => simp [intOf]; omega
      · have ha : l.all okS = true := sall_yes fun j hj => hall.out j hj (by omega)
        have hge : ¬ (k : Int) < l.length := by omega
        have hm2 : Hid (Calls Tryz.prog 30 #[.agg #[.int .i64 x, .int .i64 y]] wr fun e w' => e = .returned (.bool (okS ⟨x, y⟩)) ∧ Below wr.heap.size wr w') := hm.out wr
        have hx2 : wr.cell? ⟨w.heap.size, 0, none⟩ = some (.int .i64 x) := (hb.cell hzh.out).trans hx1
        have hy2 : wr.cell? ⟨w.heap.size, 1, none⟩ = some (.int .i64 y) := (hb.cell hzh.out).trans hy1
        have e2 : Hid (ck = if okS ⟨x, y⟩ = true then 0 else 2) := by show ck = _; rw [e.out, ha]; simp
        clear e ha hall hSh hm
        cases hv : okS ⟨x, y⟩ with
        | false =>
          have h2 : ck = 2 := by rw [e2.out, hv]; rfl
          subst h2
          rw [hv] at hm2
          clear e2 hv
          go_wp2_with (go_at_call 30; refine hm2.out.mono ?_; rintro e w' ⟨rfl, hb2⟩)
          go_ret
          exact ⟨rfl, hBh.out.trans ((hb.trans (hb2.mono hb.size)).mono hBh.out.size)⟩
        | true =>
          have h2 : ck = 0 := by rw [e2.out, hv]; rfl
          subst h2
          rw [hv] at hm2
          clear e2 hv
          go_wp2_with (go_at_call 30; refine hm2.out.mono ?_; rintro e w' ⟨rfl, hb2⟩)
          go_ret
          exact ⟨rfl, hBh.out.trans ((hb.trans (hb2.mono hb.size)).mono hBh.out.size)⟩
end Go.Proofs.YtnnlfeimebiboaaGreatDoor

namespace Go.Proofs.YtnnlfeimebiboaaGreatDoor
open Go.RowKit Go.Shelf

set_option maxRecDepth 100000 in
set_option maxHeartbeats 2000000 in
theorem begin1_any (x : It) (w : World) : Calls Tryz.prog 53 #[.agg (itL x).toArray] w fun e w' => e = .returned (.bool (!(x.k == 2))) ∧ Below w.heap.size w w' := by
  obtain ⟨k0, f0, t0, w0, s0, h0, q0, y0⟩ := x
  have hB := (Below.refl w.heap.size w).alloc (Nat.le_refl _) (.cells #[.int .i64 k0, .int .i64 f0, .int .i64 t0, .int .i64 w0, .int .i64 s0, .int .i64 h0, .int .i64 q0, .bool y0] 43)
  show Calls Tryz.prog 53 #[.agg #[.int .i64 k0, .int .i64 f0, .int .i64 t0, .int .i64 w0, .int .i64 s0, .int .i64 h0, .int .i64 q0, .bool y0]] w _
  go_enter Tryz.func53, Tryz.ntmps53
  go_wp2_with fail
  go_ret
  exact ⟨rfl, hB⟩
theorem sk_at {l : List It} : ∀ n i k, i ≤ k → k < l.length → k < i + n → (∀ j, i ≤ j → j < k → (itAt l j).k = 2) → (itAt l k).k ≠ 2 → skG l n i = k
  | 0, i, k, h1, _, h2, _, _ => by omega
  | n + 1, i, k, h1, hk, h2, h3, h4 => by
    by_cases e : i = k
    · subst e
      exact skG_no (fun h => h4 h.2)
    · rw [skG_go ⟨by omega, h3 i (Nat.le_refl _) (by omega)⟩]
      exact sk_at n (i + 1) k (by omega) hk (by omega) (fun j h5 h6 => h3 j (by omega) h6) h4
theorem sk_all {l : List It} : ∀ n i, i ≤ l.length → l.length ≤ i + n → (∀ j, i ≤ j → j < l.length → (itAt l j).k = 2) → skG l n i = l.length
  | 0, i, h1, h2, _ => by show i = _; omega
  | n + 1, i, h1, h2, h3 => by
    by_cases e : i = l.length
    · rw [skG_no (by omega)]; exact e
    · rw [skG_go ⟨by omega, h3 i (Nat.le_refl _) (by omega)⟩]
      exact sk_all n (i + 1) (by omega) (by omega) (fun j h5 h6 => h3 j (by omega) h6)

set_option maxRecDepth 100000 in
set_option maxHeartbeats 2000000 in
theorem bindex_any (v : Value) (l : List It) (hl : l.length ≤ 9223372036854775807) (w : World) (hS : ItsAt w v l) :
    Calls Tryz.prog 52 #[v, .func (.func 53) #[] #[]] w fun e w' => (∃ n : Int, e = .returned (.int .i64 n) ∧ (if n < 0 then (l.length : Int) else n) = (sk l 0 : Nat)) ∧ Below w.heap.size w w' := by
  obtain ⟨a, cap, rfl, -⟩ := hS.ex
  have hY : Hid (∀ k (hk : k < l.length), (∀ j, j < k → (itAt l j).k = 2) → (l[k].k == 2) = false → (if ((k : Nat) : Int) < 0 then (l.length : Int) else (k : Nat)) = (sk l 0 : Nat)) := fun k hk h1 e => by
    rw [if_neg (by omega)]
    congr 1
    exact (sk_at _ 0 k (by omega) hk (by omega) (fun j _ h => h1 j h) (by rw [itAt_is hk]; simpa using e)).symm
  have hN : Hid ((∀ j, j < l.length → (itAt l j).k = 2) → (if (-1 : Int) < 0 then (l.length : Int) else -1) = (sk l 0 : Nat)) := fun h => by
    rw [if_pos (by decide)]
    congr 1
    exact (sk_all _ 0 (by omega) (by omega) (fun j _ hj => h j hj)).symm
  have hSh : Hid (ItsAt w (.slice a l.length cap) l) := hS
  clear hS
  generalize sk l 0 = r at hY hN ⊢
  go_enter Tryz.func52, Tryz.ntmps52
  go_wp2_with fail
  go_loopw [8] (fun i wr => ∃ (k : Nat), k ≤ l.length ∧ i = .int .i64 k ∧ Below w.heap.size w wr ∧ Hid (∀ j, j < k → (itAt l j).k = 2)) (fun i _ => l.length - (intOf i).toNat)
  case atStart => exact ⟨0, by omega, rfl, Below.refl _ _, fun j hj => by omega⟩
  case round =>
    obtain ⟨k, hk, rfl, hb, hall⟩ := hrel
    by_cases hlt : k < l.length
    · obtain ⟨b, o, rfl, hbl, hit⟩ := its_at hSh.out hlt
      have hi := hit wr hb
      have c0 := hi.c0
      have c1 := hi.c1
      have c2 := hi.c2
      have c3 := hi.c3
      have c4 := hi.c4
      have c5 := hi.c5
      have c6 := hi.c6
      have c7 := hi.c7
      have hlt' : (k : Int) < l.length := by omega
      have hm := begin1_any l[k] wr
      have hyes : Hid ((l[k].k == 2) = false → (if ((k : Nat) : Int) < 0 then (l.length : Int) else (k : Nat)) = (r : Nat)) := hY.out k hlt hall.out
      have hno : Hid ((l[k].k == 2) = true → ∀ j, j < k + 1 → (itAt l j).k = 2) := fun hv j hjk => by
        by_cases h : j < k
        · exact hall.out j h
        · obtain rfl : j = k := by omega
          rw [itAt_is hlt]; simpa using hv
      clear hY hN hall hit hSh hi
      generalize l[k] = it at *
      obtain ⟨k0, f0, t0, w0, s0, h0, q0, y0⟩ := it
      simp only at c0 c1 c2 c3 c4 c5 c6 c7 hm hyes hno
      have hm' : Hid (Calls Tryz.prog 53 #[.agg #[.int .i64 k0, .int .i64 f0, .int .i64 t0, .int .i64 w0, .int .i64 s0, .int .i64 h0, .int .i64 q0, .bool y0]] wr fun e w' => e = .returned (.bool (!(k0 == 2))) ∧ Below wr.heap.size wr w') := hm
      clear hm
      cases hv : (k0 == 2) with
      | false =>
        have hn' : Hid ((if ((k : Nat) : Int) < 0 then (l.length : Int) else (k : Nat)) = (r : Nat)) := hyes.out hv
        rw [hv] at hm'
        clear hyes hno hv
        go_wp2_with (go_at_call 53; refine hm'.out.mono ?_; rintro e w' ⟨rfl, hb2⟩)
        go_ret
        exact ⟨⟨_, rfl, hn'.out⟩, hb.trans (hb2.mono hb.size)⟩
      | true =>
        have hn : Hid (∀ j, j < k + 1 → (itAt l j).k = 2) := hno.out hv
        rw [hv] at hm'
        clear hyes hno hv
        go_wp2_with (go_at_call 53; refine hm'.out.mono ?_; rintro e w' ⟨rfl, hb2⟩)
        go_roundw
        case rel => exact ⟨k + 1, by omega, by simp, hb.trans (hb2.mono hb.size), hn⟩
        case measure => simp [intOf]; omega
    · have hn' : Hid ((if (-1 : Int) < 0 then (l.length : Int) else -1) = (r : Nat)) := hN.out (fun j hj => hall.out j (by omega))
      have hge : ¬ (k : Int) < l.length := by omega
      clear hY hN hall hSh
      go_wp2_with fail
      go_ret
      exact ⟨⟨_, rfl, hn'.out⟩, hb⟩

set_option maxRecDepth 100000 in
set_option maxHeartbeats 2000000 in
theorem begin_any (v : Value) (l : List It) (hl : l.length ≤ 9223372036854775807) (w : World) (hS : ItsAt w v l) :
    Calls Tryz.prog 39 #[v] w fun e w' => e = .returned (.int .i64 (sk l 0 : Nat)) ∧ Below w.heap.size w w' := by
  have hi : Hid (Calls Tryz.prog 52 #[v, .func (.func 53) #[] #[]] w fun e w' => (∃ n : Int, e = .returned (.int .i64 n) ∧ (if n < 0 then (l.length : Int) else n) = (sk l 0 : Nat)) ∧ Below w.heap.size w w') := bindex_any v l hl w hS
  obtain ⟨a, cap, rfl, -⟩ := hS.ex
  clear hS
  generalize sk l 0 = r at *
  go_enter Tryz.func39, Tryz.ntmps39
  go_wp2_with (go_at_call 52; refine hi.out.mono ?_; rintro e w' ⟨⟨n, rfl, hn⟩, hb2⟩)
  all_goals (go_ret; first | (rw [if_pos (by omega)] at hn; exact ⟨by rw [← hn]; rfl, hb2⟩) | (rw [if_neg (by omega)] at hn; exact ⟨by rw [← hn]; rfl, hb2⟩))

/-- A list from its f-th item on. -/
theorem low22 (a : Option Addr) (n cap f : Nat) (h1 : f ≤ n) (h2 : n ≤ cap) : ∃ a', (∀ W : World, (Instr.slice 22 (.slice a n cap) (some (.int .i64 (f : Int))) none none).run Tryz.prog W = .ok (.slice a' (n - f) (cap - f)) W) ∧ ∀ b o, a = some ⟨b, o, none⟩ → f < n → a' = some ⟨b, o + f * 8, none⟩ := by
  have he : Tryz.prog.elem 22 = 43 := by kernel_rfl
  have hu : Tryz.prog.underlying 22 = some (.slice (Tryz.prog.elem 22)) := by rw [he]; exact Tryz.underlying22
  have hr := fun W => run_slice_l (P := Tryz.prog) (w := W) 22 a n cap hu .i64 f (by omega) (by omega)
  have hs : ∀ W, (sizeOf (Tryz.prog.elem 22)).run Tryz.prog W = .ok 8 W := fun W => by kernel_rfl
  simp only [hs, Result.andThen, sliced, Int.toNat_natCast] at hr
  refine ⟨_, hr, fun b o e hlt => ?_⟩
  rw [if_neg (by omega), e]
  simp [addr_add]
set_option maxRecDepth 100000 in
set_option maxHeartbeats 2000000 in
theorem upTo_any (a : Option Addr) (n cap b : Nat) (hb : b ≤ n) (hn : n ≤ 8192) (hc : n ≤ cap) (w : World) :
    Calls Tryz.prog 72 #[.slice a n cap, .int .i64 b] w fun e w' => e = .returned (.slice a (min (b + 1) n) cap) ∧ w' = w := by
  have h1 : (b : Int) ≤ n := by omega
  have h2 : (n : Int) ≤ 8192 := by omega
  have h3 : (n : Int) ≤ cap := by omega
  by_cases h : b < n
  · rw [Nat.min_eq_left (by omega)]
    have h' : (b : Int) + 1 ≤ n := by omega
    have h'' : (b : Int) + 1 ≤ cap := by omega
    go_enter Tryz.func72, Tryz.ntmps72
    go_wp2_with fail
    all_goals (first | (exfalso; omega) | (go_ret; exact ⟨rfl, rfl⟩))
  · obtain rfl : b = n := by omega
    rw [Nat.min_eq_right (by omega)]
    go_enter Tryz.func72, Tryz.ntmps72
    go_wp2_with fail
    all_goals (first | (exfalso; omega) | (go_ret; exact ⟨rfl, rfl⟩))
set_option maxRecDepth 100000 in
set_option maxHeartbeats 2000000 in
theorem flegal_any (v : Value) (l : List It) (b : Nat) (h : ckL l = 0) (h0 : 0 < b) (hb : b ≤ l.length) (w : World) (hS : ItsAt w v l) :
    Calls Tryz.prog 54 #[v, .int .i64 b] w fun e w' => e = .returned (.bool (enB l b)) ∧ Below w.heap.size w w' := by
  obtain ⟨a, cap, rfl, -⟩ := hS.ex
  have hle := hS.le _ _ _ rfl
  have h8 := ck_len h
  have hm : min (b + 1) l.length ≤ l.length := Nat.min_le_right _ _
  have hmb : b - 1 ≤ min (b + 1) l.length := by omega
  obtain ⟨a', hr, ha'⟩ := low22 a (min (b + 1) l.length) cap (b - 1) hmb (by omega)
  have hI := sub_its hS hmb hm (fun g o e h => ha' g o e h)
  have hu : Hid (Calls Tryz.prog 72 #[.slice a l.length cap, .int .i64 b] w fun e w' => e = .returned (.slice a (min (b + 1) l.length) cap) ∧ w' = w) := upTo_any a l.length cap b hb h8 hle w
  have hL : Hid (Calls Tryz.prog 20 #[.slice a' (min (b + 1) l.length - (b - 1)) (cap - (b - 1)), .int .i64 1] w fun e w' => e = .returned (.bool (enB l b)) ∧ Below w.heap.size w w') := by
    have := legal_any _ _ 1 w hI
    rw [sub_legal h h0 hb] at this
    exact this
  have hr1 : (Instr.slice 22 (.slice a (min (b + 1) l.length) cap) (some (.int .i64 ((b : Int) - 1))) none none).run Tryz.prog w = .ok (.slice a' (min (b + 1) l.length - (b - 1)) (cap - (b - 1))) w := by
    have := hr w
    rwa [show ((b - 1 : Nat) : Int) = (b : Int) - 1 by omega] at this
  have h1' : (1 : Int) ≤ b := by omega
  have hb' : (b : Int) ≤ 8192 := by omega
  clear hI hS hr ha' hmb hm h h8 hle
  generalize min (b + 1) l.length = m at *
  generalize enB l b = q at *
  go_enter Tryz.func54, Tryz.ntmps54
  go_wp2_with (first | (go_at_call 72; refine hu.out.mono ?_; rintro e w' ⟨rfl, rfl⟩) | (go_at_call 20; refine hL.out.mono ?_; rintro e w' ⟨rfl, hb2⟩))
  go_ret
  exact ⟨rfl, hb2⟩
set_option maxRecDepth 100000 in
set_option maxHeartbeats 2000000 in
theorem fwidth_any (v : Value) (l : List It) (A b : Nat) (x : Int) (h : ckL l = 0) (h0 : A ≤ b) (hb : b ≤ l.length) (hx : 0 ≤ x ∧ x ≤ 4095) (w : World) (hS : ItsAt w v l) :
    Calls Tryz.prog 55 #[v, .int .i64 A, .int .i64 b, .int .i64 x] w fun e w' => e = .returned (.int .i64 (ntV l A b x)) ∧ Below w.heap.size w w' := by
  obtain ⟨a, cap, rfl, -⟩ := hS.ex
  have hle := hS.le _ _ _ rfl
  have h8 := ck_len h
  have hm : min (b + 1) l.length ≤ l.length := Nat.min_le_right _ _
  have hmb : A ≤ min (b + 1) l.length := by omega
  obtain ⟨a', hr, ha'⟩ := low22 a (min (b + 1) l.length) cap A hmb (by omega)
  have hI := sub_its hS hmb hm (fun g o e h => ha' g o e h)
  have hu : Hid (Calls Tryz.prog 72 #[.slice a l.length cap, .int .i64 b] w fun e w' => e = .returned (.slice a (min (b + 1) l.length) cap) ∧ w' = w) := upTo_any a l.length cap b hb h8 hle w
  have hL : Hid (Calls Tryz.prog 19 #[.slice a' (min (b + 1) l.length - A) (cap - A), .int .i64 0, .int .i64 ((b : Int) - A), .int .i64 x] w fun e w' => (∃ er, e = .returned (.tuple #[.int .i64 (ntV l A b x), .int .i64 er])) ∧ Below w.heap.size w w') := by
    have := iwidth_any _ _ 0 ((b - A : Nat) : Int) x w hI
    rw [sub_width h hx h0 hb] at this
    rw [show ((b - A : Nat) : Int) = (b : Int) - A by omega] at this
    exact this.mono fun e w' h => ⟨⟨_, h.1⟩, h.2⟩
  have hr1 : (Instr.slice 22 (.slice a (min (b + 1) l.length) cap) (some (.int .i64 (A : Int))) none none).run Tryz.prog w = .ok (.slice a' (min (b + 1) l.length - A) (cap - A)) w := hr w
  have h1' : (A : Int) ≤ b := by omega
  have hb' : (b : Int) ≤ 8192 := by omega
  clear hI hS hr ha' hmb hm h h8 hle
  generalize min (b + 1) l.length = m at *
  generalize ntV l A b x = q at *
  go_enter Tryz.func55, Tryz.ntmps55
  go_wp2_with (first | (go_at_call 72; refine hu.out.mono ?_; rintro e w' ⟨rfl, rfl⟩) | (go_at_call 19; refine hL.out.mono ?_; rintro e w' ⟨⟨er, rfl⟩, hb2⟩))
  go_ret
  exact ⟨rfl, hb2⟩
set_option maxRecDepth 100000 in
set_option maxHeartbeats 2000000 in
theorem fnext_any (v : Value) (l : List It) (b : Nat) (h : ckL l = 0) (hb : b ≤ l.length) (w : World) (hS : ItsAt w v l) :
    Calls Tryz.prog 41 #[v, .int .i64 b] w fun e w' => e = .returned (.int .i64 (bgN l b : Nat)) ∧ Below w.heap.size w w' := by
  obtain ⟨a, cap, rfl, -⟩ := hS.ex
  have hle := hS.le _ _ _ rfl
  have h8 := ck_len h
  obtain ⟨a', hr, ha'⟩ := low22 a l.length cap b hb (by omega)
  have hI := sub_its hS hb (Nat.le_refl _) (fun g o e h => ha' g o e h)
  have hst := sub_start h hb
  have hbg := bg_le hb
  have hL : Hid (Calls Tryz.prog 56 #[.slice a' (l.length - b) (cap - b), .int .i64 0] w fun e w' => (∃ er s, e = .returned (.tuple #[.int .i64 s, .int .i64 er]) ∧ (b : Int) + s = (bgN l b : Nat)) ∧ Below w.heap.size w w') := by
    have := start_any _ _ 0 w hI
    exact this.mono fun e w' h => ⟨⟨_, _, h.1, hst⟩, h.2⟩
  have hr1 : (Instr.slice 22 (.slice a l.length cap) (some (.int .i64 (b : Int))) none none).run Tryz.prog w = .ok (.slice a' (l.length - b) (cap - b)) w := hr w
  have hq : (bgN l b : Int) ≤ 8192 := by omega
  have hq0 : (b : Int) ≤ 8192 := by omega
  clear hI hS hr ha' h h8 hle hst hbg
  generalize bgN l b = q at *
  go_enter Tryz.func41, Tryz.ntmps41
  go_wp2_with (go_at_call 56; refine hL.out.mono ?_; rintro e w' ⟨⟨er, s, rfl, hs⟩, hb2⟩; have hs1 : Hid ((b : Int) + s = q) := hs; have hs2 : (b : Int) + s ≤ 8192 := (by omega); have hs3 : 0 ≤ (b : Int) + s := (by omega); clear hs)
  go_ret
  exact ⟨by rw [← hs1.out]; rfl, hb2⟩
end Go.Proofs.YtnnlfeimebiboaaGreatDoor
