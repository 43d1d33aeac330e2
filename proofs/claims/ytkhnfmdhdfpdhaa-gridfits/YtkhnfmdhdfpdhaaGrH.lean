/-
  What is proved here: how wide the columns of a table are.
-/
import Derived.Test.YtkhnfmdhdfpdhaaGrG
import Derived.BigRegion
import Derived.BigQuiet
namespace Go.Proofs.Ytkhnfmdhdfpdhaa
open Go.RowKit Go.Shelf

/-- A box of two numbers. -/
structure B2 (W : World) (b : Nat) (x y : Int) : Prop where
  row : W.heap[b]? = some (.cells #[.int .i64 x, .int .i64 y] 55 (0, 0))
theorem B2.lt {W : World} {b : Nat} {x y : Int} (h : B2 W b x y) : b < W.heap.size := (Array.getElem?_eq_some_iff.1 h.row).1
theorem B2.below {W W' : World} {n b : Nat} {x y : Int} (h : B2 W b x y) (hb : Below n W W') (hn : b < n) : B2 W' b x y := ⟨(hb.block b hn).trans h.row⟩
theorem B2.turns {X : Nat → Prop} {W W' : World} {b : Nat} {x y : Int} (h : B2 W b x y) (ht : Turns X W W') (hn : ¬ X b) : B2 W' b x y := ⟨(ht.block b h.lt hn).trans h.row⟩
theorem B2.c0 {W : World} {b : Nat} {x y : Int} (h : B2 W b x y) : W.cell? ⟨b, 0, none⟩ = some (.int .i64 x) := by rw [Lib.cell_of_heap h.row]; rfl
theorem B2.c1 {W : World} {b : Nat} {x y : Int} (h : B2 W b x y) : W.cell? ⟨b, 1, none⟩ = some (.int .i64 y) := by rw [Lib.cell_of_heap h.row]; rfl
theorem B2.z {W : World} {b : Nat} {x y : Int} (h : B2 W b x y) (k : Nat) : W.frozen? ⟨b, k, none⟩ = false := Lib.frozen_of_heap h.row _
theorem B2.new (w : World) (x y : Int) : B2 (w.alloc (.cells #[.int .i64 x, .int .i64 y] 55)) w.heap.size x y := ⟨World.alloc_heap_new w _⟩
theorem B2.set0 {W : World} {b : Nat} {x y : Int} (h : B2 W b x y) (z : Int) : B2 (W.setCell ⟨b, 0, none⟩ (.int .i64 z)) b z y := ⟨heap_setCell_same W b 0 _ 55 _ h.row⟩
theorem B2.set1 {W : World} {b : Nat} {x y : Int} (h : B2 W b x y) (z : Int) : B2 (W.setCell ⟨b, 1, none⟩ (.int .i64 z)) b x z := ⟨heap_setCell_same W b 1 _ 55 _ h.row⟩
theorem B2.drewN {W : World} {b : Nat} {x y : Int} (h : B2 W b x y) (n : Nat) : B2 (W.drewN n) b x y := ⟨h.row⟩
theorem info55v (x y : Int) : (Try.prog.info? 55).map (·.size) = some (#[Value.int .i64 x, .int .i64 y] : Array Value).size := info55
theorem one55 (x y : Int) : (#[Value.int .i64 x, .int .i64 y] : Array Value).all (·.oneCell') = true := by simp [Value.oneCell']
/-- A table's box. -/
structure TB (W : World) (b c : Nat) (v : Value) : Prop where
  row : W.heap[b]? = some (.cells #[.int .i64 c, v] 24 (0, 0))
theorem TB.lt {W : World} {b c : Nat} {v : Value} (h : TB W b c v) : b < W.heap.size := (Array.getElem?_eq_some_iff.1 h.row).1
theorem TB.below {W W' : World} {n b c : Nat} {v : Value} (h : TB W b c v) (hb : Below n W W') (hn : b < n) : TB W' b c v := ⟨(hb.block b hn).trans h.row⟩
theorem TB.turns {X : Nat → Prop} {W W' : World} {b c : Nat} {v : Value} (h : TB W b c v) (ht : Turns X W W') (hn : ¬ X b) : TB W' b c v := ⟨(ht.block b h.lt hn).trans h.row⟩
theorem TB.c0 {W : World} {b c : Nat} {v : Value} (h : TB W b c v) : W.cell? ⟨b, 0, none⟩ = some (.int .i64 c) := by rw [Lib.cell_of_heap h.row]; rfl
theorem TB.c1 {W : World} {b c : Nat} {v : Value} (h : TB W b c v) : W.cell? ⟨b, 1, none⟩ = some v := by rw [Lib.cell_of_heap h.row]; rfl
theorem TB.new (w : World) (c : Nat) (v : Value) : TB (w.alloc (.cells #[.int .i64 c, v] 24)) w.heap.size c v := ⟨World.alloc_heap_new w _⟩

theorem cmx_step {f : Nat → Int} {c j p : Nat} (hp : p % c = 0) (hj : j < c) : cmx f c j (p + c) = max (cmx f c j p) (f (j + p)) := by
  obtain ⟨r, rfl⟩ : ∃ r, p = r * c := ⟨p / c, by have := Nat.div_add_mod p c; rw [hp, Nat.mul_comm] at this; omega⟩
  rw [cmx_round hj, Nat.add_comm j]
theorem row_next {n c p j : Nat} (hn : n % c = 0) (hp : p % c = 0) (hlt : j + p < n) : p + c ≤ n := by
  obtain ⟨r, rfl⟩ : ∃ r, p = c * r := ⟨p / c, by have := Nat.div_add_mod p c; omega⟩
  obtain ⟨R, rfl⟩ : ∃ R, n = c * R := ⟨n / c, by have := Nat.div_add_mod n c; omega⟩
  have h1 : r < R := Nat.lt_of_mul_lt_mul_left (a := c) (by omega)
  have := Nat.mul_le_mul_left c (show r + 1 ≤ R by omega)
  rw [Nat.mul_succ] at this
  exact this
theorem row_last {n c p j : Nat} (hn : n % c = 0) (hp : p % c = 0) (hj : j < c) (hle : p ≤ n) (h : ¬ j + p < n) : p = n := by
  by_cases e : p = n
  · exact e
  · have := row_next (j := 0) hn hp (by omega)
    omega
set_option maxRecDepth 100000 in
set_option maxHeartbeats 4000000 in
theorem measure_any (c : Nat) (v : Value) (l : List ByteArray) (hc : 1 ≤ c ∧ c ≤ 8) (hl : l.length ≤ 64) (hd : l.length % c = 0) (hC : Cells l) (j : Nat) (hj : j < c) (w : World) (hS : StrsAt w v l) :
    Calls Try.prog 44 #[.agg #[.int .i64 c, v], .int .i64 j] w fun e w' => e = .returned (.agg #[.int .i64 (colI c l j).s, .int .i64 (colI c l j).m]) ∧ Below w.heap.size w w' := by
  obtain ⟨a, cap, rfl, h2⟩ := hS.ex
  clear hS
  have hcol := hC.col c j
  have hcm := cmx_rng hC.rng c j
  have hext : Hid (∀ k (hk : k < l.length) (W : World), Calls Try.prog 54 #[.string l[k]] W fun e w' => e = .returned (.agg #[.int .i64 (fS l k), .int .i64 (fM l k)]) ∧ Below W.heap.size W w') := fun k hk W => by
    have := extent_any l[k] (hC k hk) W
    unfold fS fM
    rw [getD_cell hk]
    exact this
  have hB1 := (Below.refl w.heap.size w).alloc (Nat.le_refl _) (.cells #[.int .i64 c, .slice a l.length cap] 24)
  have hT1 := TB.new w c (.slice a l.length cap)
  have hs1 : (w.alloc (.cells #[.int .i64 c, .slice a l.length cap] 24)).heap.size = w.heap.size + 1 := World.size_alloc _ _
  have hB2 := hB1.alloc hB1.size (.cells #[.int .i64 0, .int .i64 0] 55)
  have hT2 := hT1.turns (Turns.alloc Noth _ (.cells #[.int .i64 0, .int .i64 0] 55)) (fun h => h)
  have hr2 := B2.new (w.alloc (.cells #[.int .i64 c, .slice a l.length cap] 24)) 0 0
  have hs2 : ((w.alloc (.cells #[.int .i64 c, .slice a l.length cap] 24)).alloc (.cells #[.int .i64 0, .int .i64 0] 55)).heap.size = w.heap.size + 2 := by rw [World.size_alloc, hs1]
  have hB3 := hB2.alloc hB2.size (.cells #[.int .i64 0, .int .i64 0] 55)
  have hT3 := hT2.turns (Turns.alloc Noth _ (.cells #[.int .i64 0, .int .i64 0] 55)) (fun h => h)
  have hr3 := hr2.turns (Turns.alloc Noth _ (.cells #[.int .i64 0, .int .i64 0] 55)) (fun h => h)
  have hq3 := B2.new ((w.alloc (.cells #[.int .i64 c, .slice a l.length cap] 24)).alloc (.cells #[.int .i64 0, .int .i64 0] 55)) 0 0
  rw [hs1] at hr3
  rw [hs2] at hq3
  obtain ⟨hc1, hc2⟩ := hc
  go_enter Try.func44, Try.ntmps44
  go_wp2_with fail
  go_loopw [6] (fun i wr => ∃ p : Nat, p % c = 0 ∧ p ≤ l.length ∧ i = .int .i64 ((j + p : Nat) : Int) ∧ Below w.heap.size w wr ∧ TB wr w.heap.size c (.slice a l.length cap) ∧ B2 wr (w.heap.size + 1) 0 0 ∧ B2 wr (w.heap.size + 2) (cmx (fS l) c j p) (cmx (fM l) c j p)) (fun i _ => l.length + 8 - (intOf i).toNat)
  case atStart => exact ⟨0, Nat.zero_mod c, by omega, rfl, hB3, hT3, hr3, hq3⟩
  case round =>
    clear hB1 hT1 hs1 hB2 hT2 hr2 hs2 hB3 hT3 hr3 hq3
    obtain ⟨p, hp, hpl, rfl, hb, hT, hr, hq⟩ := hrel
    have t0 := hT.c0
    have t1 := hT.c1
    have hsw := hq.lt
    by_cases hlt : j + p < l.length
    · rcases h2 with h2 | ⟨b, o, rfl, hbl, hcl⟩
      · rw [h2] at hlt; simp at hlt
      have hlt' : ((j + p : Nat) : Int) < l.length := by omega
      have d0 : wr.cell? ⟨b, o + (j + p), none⟩ = some (.string l[j + p]) := (hb.cell hbl).trans (hcl (j + p) hlt)
      have hnx := row_next hd hp hlt
      have hpc : (p + c) % c = 0 := by rw [Nat.add_mod_right]; exact hp
      have hcall := hext.out (j + p) hlt wr
      have k1 : Hid (cmx (fS l) c j (p + c) = max (cmx (fS l) c j p) (fS l (j + p))) := cmx_step hp hj
      have k2 : Hid (cmx (fM l) c j (p + c) = max (cmx (fM l) c j p) (fM l (j + p))) := cmx_step hp hj
      clear hcl hext hcm hcol
      generalize l[j + p] = s at *
      generalize fS l (j + p) = x at *
      generalize fM l (j + p) = y at *
      generalize cmx (fS l) c j p = X at *
      generalize cmx (fM l) c j p = Y at *
      generalize hi : j + p = i at *
      have hi' : Hid (j + p = i) := hi
      clear hi
      go_wp2_with fail
      refine hcall.mono ?_
      rintro e w1 ⟨rfl, b1⟩
      have hT1 := hT.below b1 hT.lt
      have hr1 := hr.below b1 hr.lt
      have hq1 := hq.below b1 hq.lt
      have hB1 := hb.trans (b1.mono hb.size)
      have hz1 := b1.size
      have hB2 := hB1.alloc hB1.size (.cells #[.int .i64 x, .int .i64 y] 55)
      have hx2 := B2.new w1 x y
      have hT2 := hT1.turns (Turns.alloc Noth _ (.cells #[.int .i64 x, .int .i64 y] 55)) (fun h => h)
      have hr2 := hr1.turns (Turns.alloc Noth _ (.cells #[.int .i64 x, .int .i64 y] 55)) (fun h => h)
      have hq2 := hq1.turns (Turns.alloc Noth _ (.cells #[.int .i64 x, .int .i64 y] 55)) (fun h => h)
      have hlw := hq1.lt
      go_wp2_with fail
      clear hT hr hq hb hT1 hr1 hq1 hB1 t0 t1 d0 hcall b1 hbl
      generalize w1.alloc (.cells #[.int .i64 x, .int .i64 y] 55) = w2 at *
      have e0 := hq2.c0
      have e1 := hq2.c1
      have z0 := hq2.z 0
      have z1 := hq2.z 1
      have x0 := hx2.c0
      have x1 := hx2.c1
      have hend : Hid (∀ X' Y', X' = max X x → Y' = max Y y → Below w.heap.size w (((w2.setCell ⟨w.heap.size + 2, 0, none⟩ (.int .i64 X')).setCell ⟨w.heap.size + 2, 1, none⟩ (.int .i64 Y')).drew) ∧ TB (((w2.setCell ⟨w.heap.size + 2, 0, none⟩ (.int .i64 X')).setCell ⟨w.heap.size + 2, 1, none⟩ (.int .i64 Y')).drew) w.heap.size c (.slice (some ⟨b, o, none⟩) l.length cap) ∧ B2 (((w2.setCell ⟨w.heap.size + 2, 0, none⟩ (.int .i64 X')).setCell ⟨w.heap.size + 2, 1, none⟩ (.int .i64 Y')).drew) (w.heap.size + 1) 0 0 ∧ B2 (((w2.setCell ⟨w.heap.size + 2, 0, none⟩ (.int .i64 X')).setCell ⟨w.heap.size + 2, 1, none⟩ (.int .i64 Y')).drew) (w.heap.size + 2) (cmx (fS l) c j (p + c)) (cmx (fM l) c j (p + c))) := by
        rintro X' Y' rfl rfl
        have T1 := Turns.setCell (X := fun k => k = w.heap.size + 2) w2 (p := ⟨w.heap.size + 2, 0, none⟩) rfl (.int .i64 (max X x))
        have T2 := Turns.setCell (X := fun k => k = w.heap.size + 2) (w2.setCell ⟨w.heap.size + 2, 0, none⟩ (.int .i64 (max X x))) (p := ⟨w.heap.size + 2, 1, none⟩) rfl (.int .i64 (max Y y))
        have T3 := (T1.trans T2).trans (Turns.drewN (fun k => k = w.heap.size + 2) _ 1)
        rw [k1.out, k2.out]
        exact ⟨hB2.trans (T3.below hB2.size (fun k hk => by omega)), hT2.turns T3 (by omega), hr2.turns T3 (by omega), ((hq2.set0 _).set1 _).drewN 1⟩
      have hne : ¬ w1.heap.size = w.heap.size + 2 := by omega
      clear hT2 hr2 hq2 hB2 hx2 k1 k2
      by_cases dx : X < x
      · by_cases dy : Y < y
        · go_region
          obtain ⟨E1, E2, E3, E4⟩ := hend.out x y (by omega) (by omega)
          have t0 := E2.c0
          clear hend e0 e1 z0 z1 x0 x1
          generalize ((w2.setCell ⟨w.heap.size + 2, 0, none⟩ (.int .i64 x)).setCell ⟨w.heap.size + 2, 1, none⟩ (.int .i64 y)).drew = w3 at *
          go_wp2_with fail
          go_roundw
          case rel => exact ⟨p + c, hpc, hnx, by have := hi'.out; simp; omega, E1, E2, E3, E4⟩
          case measure => have := hi'.out; simp [intOf]; omega
        · go_region
          obtain ⟨E1, E2, E3, E4⟩ := hend.out x Y (by omega) (by omega)
          have t0 := E2.c0
          clear hend e0 e1 z0 z1 x0 x1
          generalize ((w2.setCell ⟨w.heap.size + 2, 0, none⟩ (.int .i64 x)).setCell ⟨w.heap.size + 2, 1, none⟩ (.int .i64 Y)).drew = w3 at *
          go_wp2_with fail
          go_roundw
          case rel => exact ⟨p + c, hpc, hnx, by have := hi'.out; simp; omega, E1, E2, E3, E4⟩
          case measure => have := hi'.out; simp [intOf]; omega
      · by_cases dy : Y < y
        · go_region
          obtain ⟨E1, E2, E3, E4⟩ := hend.out X y (by omega) (by omega)
          have t0 := E2.c0
          clear hend e0 e1 z0 z1 x0 x1
          generalize ((w2.setCell ⟨w.heap.size + 2, 0, none⟩ (.int .i64 X)).setCell ⟨w.heap.size + 2, 1, none⟩ (.int .i64 y)).drew = w3 at *
          go_wp2_with fail
          go_roundw
          case rel => exact ⟨p + c, hpc, hnx, by have := hi'.out; simp; omega, E1, E2, E3, E4⟩
          case measure => have := hi'.out; simp [intOf]; omega
        · go_region
          obtain ⟨E1, E2, E3, E4⟩ := hend.out X Y (by omega) (by omega)
          have t0 := E2.c0
          clear hend e0 e1 z0 z1 x0 x1
          generalize ((w2.setCell ⟨w.heap.size + 2, 0, none⟩ (.int .i64 X)).setCell ⟨w.heap.size + 2, 1, none⟩ (.int .i64 Y)).drew = w3 at *
          go_wp2_with fail
          go_roundw
          case rel => exact ⟨p + c, hpc, hnx, by have := hi'.out; simp; omega, E1, E2, E3, E4⟩
          case measure => have := hi'.out; simp [intOf]; omega
    · have he := row_last hd hp hj hpl hlt
      have hge : ¬ ((j + p : Nat) : Int) < l.length := by omega
      have e0 := hq.c0
      have e1 := hq.c1
      have hce : Hid (colI c l j = ⟨cmx (fS l) c j p + 4, cmx (fM l) c j p + 4⟩) := (by unfold colI; rw [he] : _ = _)
      have hpp := hcm p
      have hres := B2.turns hr (Turns.drewN Noth wr 0) (fun h => h)
      have T1 := Turns.setRow (X := fun k => k = w.heap.size + 1) wr (r := w.heap.size + 1) rfl #[.int .i64 (cmx (fS l) c j p + 4), .int .i64 (cmx (fM l) c j p + 4)]
      have hBe := hb.trans (T1.below hb.size (fun k hk => by omega))
      clear hext hcm hcol h2 hd
      have hce' : Hid (∀ W, Below w.heap.size w W → Value.agg #[.int .i64 (cmx (fS l) c j p + 4), .int .i64 (cmx (fM l) c j p + 4)] = .agg #[.int .i64 (colI c l j).s, .int .i64 (colI c l j).m] ∧ Below w.heap.size w W) := fun W hW => ⟨by rw [hce.out], hW⟩
      clear hce
      generalize cmx (fS l) c j p = X at *
      generalize cmx (fM l) c j p = Y at *
      clear hres
      go_wp2_with (refine wpList_store_row rfl 55 _ _ rfl (w.heap.size + 1) #[.int .i64 (X + 4), .int .i64 (Y + 4)] rfl rfl 55 _ hr.row (info55v _ _) rfl (one55 _ _) ?_)
      refine bodyPost_ret (results_cell_row rfl _ _ (w.heap.size + 1) 55 #[.int .i64 (X + 4), .int .i64 (Y + 4)] (0, 0) _ rfl (setRow_heap _ _ _ _ 55 _ hr.row) Try.underlying55 rfl info55) rfl ?_
      obtain ⟨q1, q2⟩ := hce'.out _ hBe
      exact ⟨by rw [q1], q2⟩
end Go.Proofs.Ytkhnfmdhdfpdhaa
