/-
  What is proved here: what the document's own Labels tells.
-/
import Derived.Test.YtjagnidkjpmkcaaDoorRefD
namespace Go.Proofs.YtjagnidkjpmkcaaDoor
open Go.RowKit Go.Shelf

/-- The document's counts, in memory. -/
structure NAt (W : World) (b : Nat) (C : Nat → Nat → Nat) : Prop where
  ex : ∃ cur, W.heap[b]? = some (.cells cur 57 (0, 0)) ∧ cur.size = 36 ∧ ∀ q lv, q < 8 → lv < 4 → cur[(q + 1) * 4 + lv]? = some (.int .i64 (C q lv))

theorem NAt.cell {W : World} {b : Nat} {C : Nat → Nat → Nat} (h : NAt W b C) {q lv : Nat} (hq : q < 8) (hlv : lv < 4) : W.cell? ⟨b, (q + 1) * 4 + lv, none⟩ = some (.int .i64 (C q lv)) ∧ W.frozen? ⟨b, (q + 1) * 4 + lv, none⟩ = false := by
  obtain ⟨cur, h1, h2, h3⟩ := h.ex
  exact ⟨by rw [Lib.cell_of_heap h1, h3 q lv hq hlv], Lib.frozen_of_heap h1 _⟩
theorem NAt.lt {W : World} {b : Nat} {C : Nat → Nat → Nat} (h : NAt W b C) : b < W.heap.size := by
  obtain ⟨cur, h1, _⟩ := h.ex
  exact (Array.getElem?_eq_some_iff.1 h1).1
theorem NAt.same {W W' : World} {b : Nat} {C : Nat → Nat → Nat} (h : NAt W b C) (hb : W'.heap[b]? = W.heap[b]?) : NAt W' b C := by
  obtain ⟨cur, h1, h2⟩ := h.ex
  exact ⟨cur, hb.trans h1, h2⟩
theorem NAt.set {W : World} {b : Nat} {C : Nat → Nat → Nat} (h : NAt W b C) {q lv : Nat} (_hq : q < 8) (hlv : lv < 4) (v : Nat) : NAt (W.setCell ⟨b, (q + 1) * 4 + lv, none⟩ (.int .i64 v)) b (fun q' j => if q' = q then (if j = lv then v else C q' j) else C q' j) := by
  obtain ⟨cur, h1, h2, h3⟩ := h.ex
  refine ⟨cur.setIfInBounds ((q + 1) * 4 + lv) (.int .i64 v), by simp [World.setCell, Array.getElem?_modify, h1], by simpa using h2, fun q' j hq' hj => ?_⟩
  by_cases e1 : q' = q
  · subst e1
    rw [if_pos rfl]
    by_cases e2 : j = lv
    · subst e2
      rw [if_pos rfl, Array.getElem?_setIfInBounds_self_of_lt (by omega)]
    · rw [if_neg e2, Array.getElem?_setIfInBounds_ne (by omega)]
      exact h3 q' j hq' hj
  · rw [if_neg e1, Array.getElem?_setIfInBounds_ne (by omega)]
    exact h3 q' j hq' hj
theorem NAt.congr {W : World} {b : Nat} {C D : Nat → Nat → Nat} (h : NAt W b C) (hCD : ∀ q lv, q < 8 → lv < 4 → C q lv = D q lv) : NAt W b D := by
  obtain ⟨cur, h1, h2, h3⟩ := h.ex
  exact ⟨cur, h1, h2, fun q lv hq hlv => by rw [← hCD q lv hq hlv]; exact h3 q lv hq hlv⟩

def zero36 : Obj := .cells #[.int .i64 0, .int .i64 0, .int .i64 0, .int .i64 0, .int .i64 0, .int .i64 0, .int .i64 0, .int .i64 0, .int .i64 0, .int .i64 0, .int .i64 0, .int .i64 0, .int .i64 0, .int .i64 0, .int .i64 0, .int .i64 0, .int .i64 0, .int .i64 0, .int .i64 0, .int .i64 0, .int .i64 0, .int .i64 0, .int .i64 0, .int .i64 0, .int .i64 0, .int .i64 0, .int .i64 0, .int .i64 0, .int .i64 0, .int .i64 0, .int .i64 0, .int .i64 0, .int .i64 0, .int .i64 0, .int .i64 0, .int .i64 0] 57
theorem zero36_at {W : World} {b : Nat} (h : W.heap[b]? = some zero36) : NAt W b (fun q lv => cnt [] q lv) := by
  refine ⟨_, h, rfl, fun q lv hq hlv => ?_⟩
  have : ∀ j : Fin 36, (#[.int .i64 0, .int .i64 0, .int .i64 0, .int .i64 0, .int .i64 0, .int .i64 0, .int .i64 0, .int .i64 0, .int .i64 0, .int .i64 0, .int .i64 0, .int .i64 0, .int .i64 0, .int .i64 0, .int .i64 0, .int .i64 0, .int .i64 0, .int .i64 0, .int .i64 0, .int .i64 0, .int .i64 0, .int .i64 0, .int .i64 0, .int .i64 0, .int .i64 0, .int .i64 0, .int .i64 0, .int .i64 0, .int .i64 0, .int .i64 0, .int .i64 0, .int .i64 0, .int .i64 0, .int .i64 0, .int .i64 0, .int .i64 0] : Array Value)[j.val]? = some (.int .i64 0) := by
    intro j
    rcases j with ⟨j, hj⟩
    simp only
    rw [Array.getElem?_eq_getElem (by simpa using hj)]
    have : ∀ x ∈ (#[.int .i64 0, .int .i64 0, .int .i64 0, .int .i64 0, .int .i64 0, .int .i64 0, .int .i64 0, .int .i64 0, .int .i64 0, .int .i64 0, .int .i64 0, .int .i64 0, .int .i64 0, .int .i64 0, .int .i64 0, .int .i64 0, .int .i64 0, .int .i64 0, .int .i64 0, .int .i64 0, .int .i64 0, .int .i64 0, .int .i64 0, .int .i64 0, .int .i64 0, .int .i64 0, .int .i64 0, .int .i64 0, .int .i64 0, .int .i64 0, .int .i64 0, .int .i64 0, .int .i64 0, .int .i64 0, .int .i64 0, .int .i64 0] : Array Value).toList, x = .int .i64 0 := by simp
    exact congrArg some (this _ (by simp))
  exact this ⟨(q + 1) * 4 + lv, by omega⟩

theorem labs_take (ls : List En) {k : Nat} (h : k < ls.length) : (labs ls).take (k + 1) = (labs ls).take k ++ [lab ls k] := by
  have hk : k < (labs ls).length := by rw [labs_length]; exact h
  rw [List.take_succ_eq_append_getElem hk]
  have := labs_at ls h
  rw [List.getElem?_eq_getElem hk] at this
  rw [Option.some.inj this]
theorem strC_append (A B : List (List UInt8)) : strC (A ++ B) = strC A ++ strC B := by simp [strC]

theorem row_keep {W W' : World} {base : Nat} {e : TypeId} {size : Nat} {v : Value} {n : Nat} {xs : List Value} (h : W.ownsRow base e size v n xs) (hk : ∀ g, v.ownBlock = some g → W'.heap[g]? = W.heap[g]?) : W'.ownsRow base e size v n xs := by
  refine ⟨h.1, ?_⟩
  rcases h.2 with hn | ⟨g, cap, cur, rfl, hb, hg, r⟩
  · exact .inl hn
  · exact .inr ⟨g, cap, cur, rfl, hb, (hk g rfl).trans hg, r⟩

set_option maxHeartbeats 1000000 in
set_option maxRecDepth 100000 in
theorem refLabels_any (a : Option Addr) (n cap : Nat) (ls : List En) (hn : n = ls.length) (hn1 : n ≤ 3999) (hall : ls.all okE = true) (w : World) (hS : EnAt w (.slice a n cap) ls) :
    Calls Tryd.prog 16 #[.slice a n cap] w fun e w' => ∃ v', e = .returned v' ∧ TxAt w' v' (labs ls) ∧ Below w.heap.size w w' := by
  have h2 : ls = [] ∨ ∃ b o, a = some ⟨b, o, none⟩ ∧ b < w.heap.size ∧ ∀ (i : Nat) (h : i < ls.length), w.cell? ⟨b, o + i * 2, none⟩ = some (.int .i64 ls[i].1) ∧ w.cell? ⟨b, o + i * 2 + 1, none⟩ = some (.int .i64 ls[i].2) := by
    obtain ⟨a', cap', e', h2⟩ := hS.ex
    cases e'
    exact h2
  have HN : Hid (n = ls.length) := hn
  have HALL : Hid (ls.all okE = true) := hall
  clear hn hall hS
  go_enter Tryd.func16, Tryd.ntmps16
  go_wp2_with fail
  change Code.wp _ _ _ _ (w.alloc zero36)
  obtain ⟨i0, hi0, hz0, hz1, hz2⟩ := info_parts info9
  go_loopw [3, 5] (fun v i wr => ∃ k : Nat, k ≤ n ∧ i = .int .i64 k ∧ NAt wr w.heap.size (fun q lv => cnt (ls.take k) q lv) ∧ wr.ownsRow (w.heap.size + 1) 9 1 v k (strC ((labs ls).take k)) ∧ Below w.heap.size w wr) (fun _ i _ => n - (RowKit.intOf i).toNat)
  case atStart => exact ⟨0, by omega, rfl, zero36_at (heap_new w _), World.ownsRow_nil _ _ _ _, (Below.refl _ w).alloc (Nat.le_refl _) _⟩
  case round =>
    obtain ⟨k, hk, rfl, hC, hrow, hb⟩ := hrel
    by_cases hlt : k < n
    · have hltl : k < ls.length := by have := HN.out; omega
      have hkn : (k : Int) < n := by omega
      rcases h2 with h2 | ⟨b, o, rfl, hbl, hc⟩
      · rw [h2] at hltl; simp at hltl
      · obtain ⟨c0, c1⟩ := hc k hltl
        have d0 := (hb.cell (p := ⟨b, o + k * 2, none⟩) hbl).trans c0
        have d1 := (hb.cell (p := ⟨b, o + k * 2 + 1, none⟩) hbl).trans c1
        clear hc c0 c1
        have hok := (okE_iff _).1 (List.all_eq_true.1 HALL.out ls[k] (List.getElem_mem hltl))
        have hlt2 := labs_take ls hltl
        have hCX : NAt (wr.alloc (.cells #[.int .i64 ls[k].1, .int .i64 ls[k].2] 37)) w.heap.size (fun q lv => cnt (ls.take k) q lv) := hC.same (Below.heap_alloc _ _ _ hC.lt)
        have hrX := hrow.alloc (.cells #[.int .i64 ls[k].1, .int .i64 ls[k].2] 37)
        have hbX := hb.alloc hb.size (.cells #[.int .i64 ls[k].1, .int .i64 ls[k].2] 37)
        by_cases hz : ls[k].1 = 0
        · have hl0 : lab ls k = [] := by unfold lab; rw [List.getElem?_eq_getElem hltl]; simp [hz]
          have hnew : Hid (strC ((labs ls).take (k + 1)) = strC ((labs ls).take k) ++ [.string ⟨#[]⟩]) := by
            show _ = _
            rw [hlt2, strC_append, hl0]; rfl
          have hCn : NAt (wr.alloc (.cells #[.int .i64 ls[k].1, .int .i64 ls[k].2] 37)) w.heap.size (fun q lv => cnt (ls.take (k + 1)) q lv) := hCX.congr (fun q lv _ _ => by
            have := cnt_take ls hltl q
            rw [if_neg (by omega)] at this
            rw [this])
          rw [hz] at d0 hrX hbX hCn
          clear hlt2 hl0 hCX hC hrow hok hz
          generalize ls[k].2 = y at *
          obtain ⟨WX, hWX⟩ : ∃ WX, wr.alloc (.cells #[.int .i64 0, .int .i64 y] 37) = WX := ⟨_, rfl⟩
          rw [hWX] at hrX hbX hCn
          have hrA := hrX.alloc (.cells #[.string ⟨#[]⟩] 9)
          have hbA := hbX.alloc hbX.size (.cells #[.string ⟨#[]⟩] 9)
          have hcl := hCn.lt
          have k1 : Hid (k + 1 ≤ maxLen) := by show _ ≤ _; unfold maxLen; omega
          have k2 : Hid ((k + 1) * 16 ≤ 140737488355328) := by show _ ≤ _; omega
          have k3 : Hid (w.heap.size + 1 ≤ (WX.alloc (.cells #[.string ⟨#[]⟩] 9)).heap.size) := by show _ ≤ _; simp; omega
          have x0 : WX.cell? ⟨wr.heap.size, 0, none⟩ = some (.int .i64 0) := by rw [← hWX, Lib.cell_of_heap (heap_new wr _)]; rfl
          go_wp2_with (at_builtin; refine wpList_append_any _ rfl _ _ 29 rfl (w.heap.size + 1) 9 i0 _ 1 16 Tryd.underlying29 hi0 hz0 hz1 hz2 rfl (by decide) _ k (strC ((labs ls).take k)) rfl hrA 1 [.string ⟨#[]⟩] _ rfl (srcs_str _ _) k1.out k2.out k3.out ?_)
          intro v' w' q1 q2
          have g1 : NAt w' w.heap.size (fun q lv => cnt (ls.take (k + 1)) q lv) := hCn.same ((q2.block _ (by simp; omega) (fun e => by have := (hrA.lt _ e.symm).1; omega)).trans (Below.heap_alloc _ _ _ hcl))
          have g2 := below_grown hbA hrA (Nat.le_refl _) (by omega) q2
          rw [← hnew.out] at q1
          go_wp2_with fail
          go_roundw
          case rel => exact ⟨k + 1, by omega, by simp, g1, q1, g2⟩
          case measure => simp [RowKit.intOf]; omega
        · obtain ⟨q, hq⟩ : ∃ q : Nat, ls[k].1 = (q : Int) + 1 := ⟨(ls[k].1 - 1).toNat, by omega⟩
          obtain ⟨lv, hlv⟩ : ∃ lv : Nat, ls[k].2 = lv := ⟨ls[k].2.toNat, by omega⟩
          have hq8 : q < 8 := by omega
          have hlv4 : lv < 4 := by omega
          have hlab : Hid (lab ls k = labelN lv (cnt (ls.take (k + 1)) q lv)) := lab_of ls hltl hq hlv
          have hnew : Hid (strC ((labs ls).take (k + 1)) = strC ((labs ls).take k) ++ [.string ⟨(lab ls k).toArray⟩]) := by
            show _ = _
            rw [hlt2, strC_append]; rfl
          have hct : Hid (∀ q', cnt (ls.take (k + 1)) q' = if q' = q then up (cnt (ls.take k) q) lv else cnt (ls.take k) q') := fun q' => by
            rw [cnt_take ls hltl, hq, hlv, Int.toNat_natCast]
            by_cases e : q' = q
            · subst e; rw [if_pos rfl, if_pos rfl]
            · rw [if_neg (by omega), if_neg e]
          have hcl : cnt (ls.take k) q lv ≤ 100000 := by have := cnt_le q (ls.take k) lv; rw [List.length_take] at this; omega
          have hcn : Hid (cnt (ls.take (k + 1)) q lv ≤ 3999) := by show _ ≤ _; have := cnt_le q (ls.take (k + 1)) lv; rw [List.length_take] at this; have := HN.out; omega
          rw [hq, hlv] at hCX hrX hbX
          rw [hq] at d0
          rw [hlv] at d1
          have hnz : ¬ ((q : Int) + 1 = 0) := by omega
          have hnzb : ((q : Int) + 1 == 0) = false := by simp; omega
          have hXb : w.heap.size < wr.heap.size := hC.lt
          clear hlt2 hok hz hq hlv hC hrow
          obtain ⟨WX, hWX⟩ : ∃ WX, wr.alloc (.cells #[.int .i64 ((q : Int) + 1), .int .i64 lv] 37) = WX := ⟨_, rfl⟩
          have hX : WX.heap[wr.heap.size]? = some (.cells #[.int .i64 ((q : Int) + 1), .int .i64 lv] 37 (0, 0)) := by rw [← hWX]; exact heap_new wr _
          rw [hWX] at hCX hrX hbX
          have x0 : WX.cell? ⟨wr.heap.size, 0, none⟩ = some (.int .i64 ((q : Int) + 1)) := by rw [Lib.cell_of_heap hX]; rfl
          have x1 : WX.cell? ⟨wr.heap.size, 1, none⟩ = some (.int .i64 lv) := by rw [Lib.cell_of_heap hX]; rfl
          obtain ⟨e1, f1⟩ := hCX.cell hq8 hlv4
          have hq9 : (q : Int) + 1 < 9 := by omega
          have hq0 : ¬ ((q : Int) + 1 < 0) := by omega
          have hq00 : (0 : Int) ≤ (q : Int) + 1 := by omega
          have hlv9 : (lv : Int) < 4 := by omega
          have htn : ((q : Int) + 1).toNat = q + 1 := by omega
          have hXne : ¬ (wr.heap.size = w.heap.size) := by omega
          have mixed : Tryd.prog.follows Departure.mixedOrders = true := by kernel_rfl
          generalize hgc : cnt (ls.take k) q lv = c at e1 hcl
          have hN2 : NAt (WX.setCell ⟨w.heap.size, (q + 1) * 4 + lv, none⟩ (.int .i64 ((c : Int) + 1))).drew w.heap.size (fun q' j => if q' = q then mid (cnt (ls.take k) q) lv (lv + 1) j else cnt (ls.take k) q' j) := by
            have h0 : NAt (WX.setCell ⟨w.heap.size, (q + 1) * 4 + lv, none⟩ (.int .i64 ((c + 1 : Nat) : Int))) w.heap.size _ := hCX.set hq8 hlv4 (c + 1)
            refine NAt.congr ⟨h0.ex⟩ (fun q' j hq' hj => ?_)
            by_cases e : q' = q
            · subst e
              rw [if_pos rfl, if_pos rfl, ← mid_start, ← hgc]
            · rw [if_neg e, if_neg e]
          have hrow2 : (WX.setCell ⟨w.heap.size, (q + 1) * 4 + lv, none⟩ (.int .i64 ((c : Int) + 1))).drew.ownsRow (w.heap.size + 1) 9 1 u3 k (strC ((labs ls).take k)) := row_keep hrX (fun g hg => Below.heap_setCell _ ⟨w.heap.size, (q + 1) * 4 + lv, none⟩ _ g (by have := (hrX.lt g hg).1; show g ≠ w.heap.size; omega))
          have hX2 : (WX.setCell ⟨w.heap.size, (q + 1) * 4 + lv, none⟩ (.int .i64 ((c : Int) + 1))).drew.heap[wr.heap.size]? = some (.cells #[.int .i64 ((q : Int) + 1), .int .i64 lv] 37 (0, 0)) := (Below.heap_setCell _ ⟨w.heap.size, (q + 1) * 4 + lv, none⟩ _ wr.heap.size hXne).trans hX
          have hb2 : Below w.heap.size w (WX.setCell ⟨w.heap.size, (q + 1) * 4 + lv, none⟩ (.int .i64 ((c : Int) + 1))).drew := (hbX.setCell (p := ⟨w.heap.size, (q + 1) * 4 + lv, none⟩) (Nat.le_refl _) _).drew
          have HGC : Hid (_ = c) := hgc
          clear hgc
          go_wp2_with fail
          go_region
          clear x0 x1 e1 f1 hCX hrX hbX hX hWX
          generalize (WX.setCell ⟨w.heap.size, (q + 1) * 4 + lv, none⟩ (.int .i64 ((c : Int) + 1))).drew = W2 at *
          have x0 : W2.cell? ⟨wr.heap.size, 0, none⟩ = some (.int .i64 ((q : Int) + 1)) := by rw [Lib.cell_of_heap hX2]; rfl
          have x1 : W2.cell? ⟨wr.heap.size, 1, none⟩ = some (.int .i64 lv) := by rw [Lib.cell_of_heap hX2]; rfl
          go_wp2_with fail
          generalize wr.heap.size = X at *
          go_loopw [7] (fun i wq => ∃ j : Nat, lv + 1 ≤ j ∧ j ≤ 4 ∧ i = .int .i64 j ∧ NAt wq w.heap.size (fun q' j' => if q' = q then mid (cnt (ls.take k) q) lv j j' else cnt (ls.take k) q' j') ∧ wq.ownsRow (w.heap.size + 1) 9 1 u3 k (strC ((labs ls).take k)) ∧ wq.heap[X]? = some (.cells #[.int .i64 ((q : Int) + 1), .int .i64 lv] 37 (0, 0)) ∧ Below w.heap.size w wq) (fun i _ => 4 - (RowKit.intOf i).toNat)
          case atStart => exact ⟨lv + 1, by omega, by omega, by simp, hN2, hrow2, hX2, hb2⟩
          case round =>
            clear hN2 hrow2 hX2 hb2 x0 x1 hb d0 d1
            obtain ⟨j, hj1, hj2, rfl, hN, hrow, hX, hb⟩ := hrel
            have x0 : wr.cell? ⟨X, 0, none⟩ = some (.int .i64 ((q : Int) + 1)) := by rw [Lib.cell_of_heap hX]; rfl
            have x1 : wr.cell? ⟨X, 1, none⟩ = some (.int .i64 lv) := by rw [Lib.cell_of_heap hX]; rfl
            by_cases hj : j < 4
            · have hji : (j : Int) < 4 := by omega
              obtain ⟨e1, f1⟩ := hN.cell hq8 hj
              have g1 : NAt (wr.setCell ⟨w.heap.size, (q + 1) * 4 + j, none⟩ (.int .i64 0)) w.heap.size (fun q' j' => if q' = q then mid (cnt (ls.take k) q) lv (j + 1) j' else cnt (ls.take k) q' j') := by
                have h0 : NAt (wr.setCell ⟨w.heap.size, (q + 1) * 4 + j, none⟩ (.int .i64 ((0 : Nat) : Int))) w.heap.size _ := hN.set hq8 hj 0
                refine NAt.congr h0 (fun q' j' hq' hj' => ?_)
                by_cases e : q' = q
                · subst e
                  rw [if_pos rfl, if_pos rfl, if_pos rfl, ← mid_step _ _ _ (show lv < j by omega)]
                · rw [if_neg e, if_neg e, if_neg e]
              have g2 : (wr.setCell ⟨w.heap.size, (q + 1) * 4 + j, none⟩ (.int .i64 0)).ownsRow (w.heap.size + 1) 9 1 u3 k (strC ((labs ls).take k)) := row_keep hrow (fun g hg => Below.heap_setCell _ ⟨w.heap.size, (q + 1) * 4 + j, none⟩ _ g (by have := (hrow.lt g hg).1; show g ≠ w.heap.size; omega))
              have g3 : (wr.setCell ⟨w.heap.size, (q + 1) * 4 + j, none⟩ (.int .i64 0)).heap[X]? = some (.cells #[.int .i64 ((q : Int) + 1), .int .i64 lv] 37 (0, 0)) := (Below.heap_setCell _ ⟨w.heap.size, (q + 1) * 4 + j, none⟩ _ X hXne).trans hX
              have g4 : Below w.heap.size w (wr.setCell ⟨w.heap.size, (q + 1) * 4 + j, none⟩ (.int .i64 0)) := hb.setCell (p := ⟨w.heap.size, (q + 1) * 4 + j, none⟩) (Nat.le_refl _) _
              clear hN hrow hX hb x1
              generalize (if q = q then mid (cnt (ls.take k) q) lv j j else cnt (ls.take k) q j) = yy at e1
              go_wp2_with fail
              go_roundw
              case rel => exact ⟨j + 1, by omega, by omega, by simp, g1, g2, g3, g4⟩
              case measure => simp [RowKit.intOf]; omega
            · obtain rfl : j = 4 := by omega
              have hNn : NAt wr w.heap.size (fun q' j' => cnt (ls.take (k + 1)) q' j') := hN.congr (fun q' j' hq' hj' => by
                show (if q' = q then _ else _) = _
                rw [hct.out q']
                by_cases e : q' = q
                · subst e
                  rw [if_pos rfl, if_pos rfl]
                  unfold mid up
                  by_cases e1 : j' < lv
                  · rw [if_pos e1, if_pos e1]
                  · rw [if_neg e1, if_neg e1]
                    by_cases e2 : j' = lv
                    · rw [if_pos e2, if_pos e2]
                    · rw [if_neg e2, if_neg e2, if_pos hj']
                · rw [if_neg e, if_neg e])
              have hbs : w.heap.size + 1 ≤ wr.heap.size := hN.lt
              clear hN
              obtain ⟨cC, hcC, hc2, hc3⟩ := hNn.ex
              obtain ⟨ec, _⟩ := hNn.cell hq8 hlv4
              have HN9 : Hid (∀ w' : World, w'.heap[w.heap.size]? = some (.cells cC 57 (0, 0)) → NAt w' w.heap.size (fun q' j' => cnt (ls.take (k + 1)) q' j')) := fun w' h => ⟨cC, h, hc2, hc3⟩
              clear hc2 hc3 hNn
              go_wp2_with fail
              refine lab_region _ (fun _ _ _ _ _ h => h) _ _ u3 k (w.heap.size + 1) w.heap.size X q lv _ hq8 hlv4 hcn.out (by omega) _ wr hrow cC _ hcC hX x0 x1 ec hbs w.heap.size (by omega) w hb (Nat.le_refl _) ?_
              intro g1 v w' r c2 b2
              have hN3 := HN9.out w' c2
              rw [← hlab.out, ← hnew.out] at r
              clear x0 x1 ec hcC hX hrow hb c2
              unfold fr16
              go_wp2_with fail
              go_roundw
              case rel => exact ⟨k + 1, by omega, by simp, hN3, r, b2⟩
              case measure => simp [RowKit.intOf]; omega
    · obtain rfl : k = n := by omega
      have hfin : Hid (TxAt wr u3 (labs ls)) := by
        have hl : (labs ls).length = k := by rw [labs_length, HN.out]
        rw [List.take_of_length_le (by omega)] at hrow
        exact TxAt.of_row (by rw [hl]; exact hrow) (by omega)
      go_wp2_with fail
      go_ret
      exact ⟨_, rfl, hfin.out, hb⟩

end Go.Proofs.YtjagnidkjpmkcaaDoor
