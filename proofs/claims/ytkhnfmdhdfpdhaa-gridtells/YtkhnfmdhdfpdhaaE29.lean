/-
  What is proved here: what the document's Masses answers of any paragraph.
  What is proved here: the document's natural width of a run.
-/
import Derived.Test.YtkhnfmdhdfpdhaaE25
import Derived.Test.YtkhnfmdhdfpdhaaE26
import Derived.Test.YtkhnfmdhdfpdhaaE27
import Derived.Test.YtkhnfmdhdfpdhaaE28
import Derived.Test.YtkhnfmdhdfpdhaaE12
import Derived.Test.YtkhnfmdhdfpdhaaE6
namespace Go.Proofs.Ytkhnfmdhdfpdhaa
open Go.RowKit Go.Shelf

set_option maxRecDepth 100000 in
set_option maxHeartbeats 2000000 in
theorem rmasses_no (a : Pa) (hlb : a.lb.size ≤ 9223372036854775807) (hms : ∀ i (h : i < a.ms.length), (a.ms[i]).size ≤ 9223372036854775807) (w : World) (hA : PaAt w a) (h : chkI a ≠ 0) : Calls Try.prog 55 #[paV a] w (MassEnd a w) := by
  have hB := (Below.refl w.heap.size w).alloc (Nat.le_refl _) (Obj.cells (paC a) 39)
  have hP := PB.new w a
  have hA1 := hA.below hB (Nat.le_refl _)
  have hs := rcheck_any a hlb hms _ hA1
  have hE : Hid (∀ W, Below w.heap.size w W → MassEnd a w (.returned (.tuple #[.slice none 0 0, .int .i64 (chkI a)])) W) := fun W hW => ⟨⟨_, rfl, .inl ⟨h, rfl⟩⟩, hW⟩
  unfold paV at hs ⊢
  have h' : (chkI a == 0) = false := by simpa using h
  generalize chkI a = n at *
  generalize hw1 : w.alloc (.cells (paC a) 39) = w1 at *
  clear hlb hms hA hA1
  go_enter Try.func55, Try.ntmps55
  go_wp2_with (refine wpList_load_row rfl 39 _ rfl w.heap.size rfl 39 _ (0, 0) _ hP.row Try.underlying39 rfl (info34 a) ?_)
  refine hs.mono ?_
  rintro e w2 ⟨rfl, hb2⟩
  have hB2 := hB.trans (hb2.mono hB.size)
  go_wp2_with fail
  go_ret2
  exact hE.out _ hB2

theorem rowM (a : Pa) {k : Nat} (h : k < num a.t) : ((mss a).take (k + 1)).flatMap msL = ((mss a).take k).flatMap msL ++ msL (msI a k) := by
  have hl : k < (mss a).length := by rw [mss_len]; exact h
  rw [List.take_succ_eq_append_getElem hl, List.flatMap_append, mss_get]
  simp
theorem rI_le (t : ByteArray) : ∀ i, rI t i ≤ i
  | 0 => Nat.le_refl _
  | i + 1 => by have := rI_le t i; show rI t i + (if kindI (bt t (st t i)) = 7 then 1 else 0) ≤ i + 1; split <;> omega
theorem src_one6 (w : World) (l : List Value) (e : TypeId) (hl : l.length = 6) (h1 : ∀ u ∈ l, u.oneCell' = true) : Srcs (w.alloc (.cells l.toArray e)) 6 (.slice (some ⟨w.heap.size, 0, none⟩) 1 1) 1 l :=
  ⟨by omega, h1, .inr ⟨_, 1, rfl, cells_new w l e⟩⟩
theorem meet_no {g f : Fc} (h : ¬ (kerB g = true ∧ kerB f = true ∧ g.s = f.s)) : meetI g f = 0 := if_neg h
theorem meet_yes {g f : Fc} (h : kerB g = true ∧ kerB f = true ∧ g.s = f.s) : meetI g f = kernI g.b f.b f.s := if_pos h
theorem ker_iff (f : Fc) : kerB f = true ↔ visK f.kd = true ∧ f.k = 1 := by
  unfold kerB visK
  simp only [decide_eq_true_eq]
  exact ⟨fun h => ⟨h.2, h.1⟩, fun h => ⟨h.2, h.1⟩⟩

/-- What the document's rounds keep. -/
structure RK (a : Pa) (w3 : World) (k : Nat) (v7 : Value) (W : World) : Prop where
  bel : Below w3.heap.size w3 W
  row : W.ownsRow w3.heap.size 105 6 v7 k (((mss a).take k).flatMap msL)

set_option maxRecDepth 100000 in
set_option maxHeartbeats 8000000 in
theorem rmasses_ok (a : Pa) (hlb : a.lb.size ≤ 9223372036854775807) (hms : ∀ i (h : i < a.ms.length), (a.ms[i]).size ≤ 9223372036854775807) (w : World) (hA : PaAt w a) (h : chkI a = 0) : Calls Try.prog 55 #[paV a] w (MassEnd a w) := by
  have hB := (Below.refl w.heap.size w).alloc (Nat.le_refl _) (Obj.cells (paC a) 39)
  have hP := PB.new w a
  have hA1 := hA.below hB (Nat.le_refl _)
  have hG := good_of h
  have hs := rcheck_any a hlb hms _ hA1
  have hE : Hid (∀ W v, W.ownsRow w.heap.size 105 6 v (num a.t) ((mss a).flatMap msL) → Below w.heap.size w W → MassEnd a w (.returned (.tuple #[v, .int .i64 0])) W) := fun W v hv hW => ⟨⟨_, by rw [h], .inr ⟨h, hv⟩⟩, hW⟩
  have hsz1 : (w.alloc (.cells (paC a) 39)).heap.size = w.heap.size + 1 := World.size_alloc _ _
  unfold paV at hs ⊢
  rw [h] at hs
  clear h hlb hms
  generalize hw1 : w.alloc (.cells (paC a) 39) = w1 at *
  go_enter Try.func55, Try.ntmps55
  go_wp2_with (refine wpList_load_row rfl 39 _ rfl w.heap.size rfl 39 _ (0, 0) _ hP.row Try.underlying39 rfl (info34 a) ?_)
  refine hs.mono ?_
  rintro e w2 ⟨rfl, hb2⟩
  have hB2 := hB.trans (hb2.mono hB.size)
  have hP2 := hP.below hb2 hP.lt
  have hA2 := hA1.below hb2 (Nat.le_refl _)
  have c0 := hP2.c0
  clear hs hA1 hP
  go_wp2_with fail
  refine (rsplit_ok a.t hG.wr _).mono ?_
  rintro e w3 ⟨v, rfl, hown3, hb3⟩
  have hB3 := hB2.trans (hb3.mono hB2.size)
  have hP3 := hP2.below hb3 hP2.lt
  have hA3 := hA2.below hb3 (Nat.le_refl _)
  clear c0 hP2 hA2
  have hnum := num_le a.t
  have hsz := hG.size
  obtain ⟨adl, lcap, gl, OL, hv, hcl⟩ : ∃ adl lcap gl OL, v = .slice adl (num a.t) lcap ∧ (0 < num a.t → adl = some ⟨gl, 0, none⟩ ∧ w3.heap[gl]? = some OL ∧ gl < w3.heap.size ∧ ∀ W : World, W.heap[gl]? = some OL → ∀ i, i < num a.t → W.cell? ⟨gl, i * 3, none⟩ = some (.int .i64 (st a.t i : Nat)) ∧ W.cell? ⟨gl, i * 3 + 1, none⟩ = some (.int .i64 (st a.t (i + 1) : Nat)) ∧ W.cell? ⟨gl, i * 3 + 2, none⟩ = some (.int .i64 (kindI (bt a.t (st a.t i))))) := by
    rcases hown3.2 with ⟨rfl, h0⟩ | ⟨g, cap, cur, rfl, hb', hg, r⟩
    · exact ⟨none, 0, 0, .cells #[] 0, by rw [h0], fun h => by omega⟩
    · refine ⟨_, cap, g, _, rfl, fun _ => ⟨rfl, hg, ?_, fun W hW i hi => ?_⟩⟩
      · exact (hown3.lt g rfl).2
      · have hW' : W.ownsRow w2.heap.size 120 3 (.slice (some ⟨g, 0, none⟩) (num a.t) cap) (num a.t) (rowC a.t (num a.t)) := ⟨hown3.1, .inr ⟨g, cap, cur, rfl, hb', hW, r⟩⟩
        have hc := fun j u (hu : (rowC a.t (num a.t))[j]? = some u) => hW'.cells (g := g) rfl j u hu
        have hrc := rowC_get a.t (num a.t) i hi
        refine ⟨?_, ?_, ?_⟩
        · have := hc _ _ (hrc 0 _ rfl); rwa [addr_add0] at this
        · have := hc _ _ (hrc 1 _ rfl); rwa [addr_add0] at this
        · have := hc _ _ (hrc 2 _ rfl); rwa [addr_add0] at this
  subst hv
  have hcl' : Hid (0 < num a.t → adl = some ⟨gl, 0, none⟩ ∧ w3.heap[gl]? = some OL ∧ gl < w3.heap.size ∧ ∀ W : World, W.heap[gl]? = some OL → ∀ i, i < num a.t → W.cell? ⟨gl, i * 3, none⟩ = some (.int .i64 (st a.t i : Nat)) ∧ W.cell? ⟨gl, i * 3 + 1, none⟩ = some (.int .i64 (st a.t (i + 1) : Nat)) ∧ W.cell? ⟨gl, i * 3 + 2, none⟩ = some (.int .i64 (kindI (bt a.t (st a.t i))))) := hcl
  have hK0 : Hid (RK a w3 0 (.slice none 0 0) w3) := ⟨Below.refl _ _, World.ownsRow_nil _ _ _ _⟩
  obtain ⟨n, hn⟩ : ∃ n, num a.t = n := ⟨_, rfl⟩
  have hn' : Hid (num a.t = n) := hn
  have hn4 : (n : Int) ≤ 4096 := by omega
  obtain ⟨i0, hi, hz0, hz1, hz2⟩ := info_parts info43
  have hi' : Hid (Try.prog.info? 105 = some i0) := hi
  clear hcl hown3 hi
  rw [hn]
  clear hn
  go_wp2_with fail
  go_loopw [7, 8, 9] (fun v7 r i wr => ∃ k : Nat, k ≤ n ∧ i = .int .i64 k ∧ r = .int .i64 (rI a.t k : Nat) ∧ Hid (RK a w3 k v7 wr)) (fun _ _ i _ => n - (intOf i).toNat)
  case atStart => exact ⟨0, by omega, rfl, rfl, hK0⟩
  case round =>
    obtain ⟨k, hk, rfl, rfl, hkp⟩ := hrel
    have hbel := hkp.out.bel
    have hrow := hkp.out.row
    by_cases hlt : k < n
    · have hkn : k < num a.t := by rw [hn'.out]; exact hlt
      have hlt' : (k : Int) < n := by omega
      obtain ⟨rfl, hOL, hglt, hcells⟩ := hcl'.out (by omega)
      have hOLr : wr.heap[gl]? = some OL := (hbel.block gl hglt).trans hOL
      obtain ⟨d0, d1, d2⟩ := hcells wr hOLr k hkn
      replace hcells : Hid _ := hcells
      have hPr : PB wr w.heap.size a := hP3.below hbel hP3.lt
      have hAr : PaAt wr a := hA3.below hbel (Nat.le_refl _)
      have hxb := num_lt hkn
      have hbt := bt_eq hxb
      have hbr := bt_rng a.t (st a.t k)
      have hfok := hG.fok hkn
      have hsr : 0 ≤ szAt a (st a.t k : Nat) ∧ szAt a (st a.t k : Nat) ≤ 64 := hfok.s
      have htr : 0 ≤ (spAt a.sp (st a.t k : Nat)).t ∧ (spAt a.sp (st a.t k : Nat)).t ≤ 15 := hfok.t
      have hw3 := hbel.size
      have hPlt := hP3.lt
      obtain ⟨x, hx⟩ : ∃ x, st a.t k = x := ⟨_, rfl⟩
      obtain ⟨y, hy⟩ : ∃ y, st a.t (k + 1) = y := ⟨_, rfl⟩
      obtain ⟨kd, hkd⟩ : ∃ kd, kindI (bt a.t x) = kd := ⟨_, rfl⟩
      have hx' : Hid (st a.t k = x) := hx
      have hy' : Hid (st a.t (k + 1) = y) := hy
      have hkd' : Hid (kindI (bt a.t x) = kd) := hkd
      rw [hx] at d0 d2 hxb hbr hsr htr
      rw [hy] at d1
      rw [hkd] at d2
      have hyb : Hid (((a.t[x]'hxb).toNat : Int) = bt a.t x) := (bt_eq hxb).symm
      have hfc : Hid (fc a k = ⟨kd, bt a.t x, szAt a x, (spAt a.sp x).t, (spAt a.sp x).k⟩) := by show fc a k = _; unfold fc; rw [hx, hkd]
      clear hbt hfok hx hy hkd
      have hB4 : Below wr.heap.size wr (wr.alloc (.cells #[.int .i64 (x : Nat), .int .i64 (y : Nat), .int .i64 kd] 120)) := (Below.refl _ _).alloc (Nat.le_refl _) _
      have hC4 : CB (wr.alloc (.cells #[.int .i64 (x : Nat), .int .i64 (y : Nat), .int .i64 kd] 120)) wr.heap.size (x : Nat) (y : Nat) kd := ⟨World.alloc_heap_new wr _⟩
      have hP4 := hPr.below hB4 hPr.lt
      have hA4 := hAr.below hB4 (Nat.le_refl _)
      have hOL4 := (hB4.block gl (by omega)).trans hOLr
      have hrow4 := ownsRow_below hrow hB4
      have hBel4 := hbel.trans (hB4.mono hw3)
      have hs4 : wr.heap.size < (wr.alloc (.cells #[.int .i64 (x : Nat), .int .i64 (y : Nat), .int .i64 kd] 120)).heap.size := by simp
      go_wp2_with fail
      generalize hw4 : wr.alloc (.cells #[.int .i64 (x : Nat), .int .i64 (y : Nat), .int .i64 kd] 120) = w4 at *
      generalize hCC : wr.heap.size = C at *
      have hu7 : Hid (∀ g, u7.ownBlock = some g → g < C) := fun g hg => by have := (hrow.lt g hg).2; rw [← hCC]; exact this
      clear d0 d1 d2 hPr hAr hOLr hrow hbel hkp
      refine rm_r11 _ (fun _ _ _ _ _ h => h) _ _ w.heap.size C x a (y : Nat) kd hxb hsz hG.sp w4 hP4 hC4 hA4 ?_
      intro M w5 hM5n hM5 hb5
      unfold fr18
      have hP5 := hP4.below hb5 hP4.lt
      have hA5 := hA4.below hb5 (Nat.le_refl _)
      have hC5 := hC4.below hb5 hC4.lt
      have hOL5 := (hb5.block gl (by omega)).trans hOL4
      have hrow5 := ownsRow_below hrow4 hb5
      have hBel5 := hBel4.trans (hb5.mono hBel4.size)
      have hMl := hM5.lt
      clear hP4 hA4 hC4 hOL4 hrow4 hBel4
      have e0 := hC5.c0
      go_wp2_with (refine wpList_load_row rfl 39 _ rfl w.heap.size rfl 39 _ (0, 0) _ hP5.row Try.underlying39 rfl (info34 a) ?_)
      refine (rlook_any a hG.sp x hxb hsz w5 hA5).mono ?_
      rintro e w6 ⟨rfl, hb6⟩
      have hs6 := hb6.size
      have hb7 : Below w5.heap.size w5 (w6.alloc (.cells #[.int .i64 (spAt a.sp x).s, .int .i64 (spAt a.sp x).t, .int .i64 (spAt a.sp x).k] 67)) := hb6.alloc hb6.size _
      have hN7 : KB (w6.alloc (.cells #[.int .i64 (spAt a.sp x).s, .int .i64 (spAt a.sp x).t, .int .i64 (spAt a.sp x).k] 67)) w6.heap.size (spAt a.sp x).s (spAt a.sp x).t (spAt a.sp x).k := ⟨World.alloc_heap_new w6 _⟩
      have hP7 := hP5.below hb7 hP5.lt
      have hA7 := hA5.below hb7 (Nat.le_refl _)
      have hC7 := hC5.below hb7 hC5.lt
      have hM7 := hM5.below hb7 hM5.lt
      have hOL7 := (hb7.block gl (by have := hb5.size; omega)).trans hOL5
      have hrow7 := ownsRow_below hrow5 hb7
      have hBel7 := hBel5.trans (hb7.mono hBel5.size)
      have e2 := hC7.c2
      have e6 := hb5.size
      clear hP5 hA5 hC5 hM5 hOL5 hrow5 hBel5 e0
      have hvis := visible_any kd
      go_wp2_with fail
      generalize hw7 : w6.alloc (.cells #[.int .i64 (spAt a.sp x).s, .int .i64 (spAt a.sp x).t, .int .i64 (spAt a.sp x).k] 67) = w7 at *
      generalize hNN : w6.heap.size = N at *
      have hMl7 := hM7.lt
      have hNl7 := hN7.lt
      have hgl7 : gl < w7.heap.size := by have := hBel7.size; omega
      have hms0 : Hid (∀ wd, wdI (fc a k) (mkAt a k) = wd → ∀ q, meetI (pf a k) (fc a k) = q → msI a k = ⟨(x : Nat), (y : Nat), kd, szAt a x, wd, q⟩) := fun wd h1 q h2 => by
        unfold msI
        rw [h1, h2, hfc.out, hx'.out, hy'.out]
      cases hv : visK kd
      · have hv12 : ¬ (kd = 1 ∨ kd = 2) := of_decide_eq_false hv
        rw [hv] at hvis
        refine (hvis _).mono ?_
        rintro e w' ⟨rfl, hww⟩
        subst w'
        by_cases h3 : kd = 3
        · have h3' : (kd == 3) = true := by simpa using h3
          have h7' : (kd == 7) = false := by simp [h3]
          have hri : Hid (rI a.t (k + 1) = rI a.t k) := rI_no (by rw [hx'.out, hkd'.out]; omega)
          have hwd := hms0.out (bw (bt a.t x) (szAt a x) + (spAt a.sp x).t) (by unfold wdI; rw [hfc.out]; exact if_pos (.inr (.inr h3)))
          replace hwd : Hid _ := hwd
          clear hvis
          have hbw := bw_rng (bt a.t x) hsr.1 hsr.2
          go_wp2_with fail
          refine rm_r14 _ (fun _ _ _ _ _ h => h) _ _ w.heap.size C M N x a (y : Nat) kd (szAt a x) 0 0 (spAt a.sp x).s (spAt a.sp x).t (spAt a.sp x).k (bt a.t x) hxb hyb.out hbr hsr (wrap_id (by omega) (by omega)) (by omega) (by omega) (by omega) w7 hP7 hC7 hM7 hN7 ?_
          intro w8 hM8 hT8
          unfold fr18
          have hOL8 := (hT8.block gl (by omega) (by omega)).trans hOL7
          have hP8 := hP7.turns hT8 (by omega)
          have hC8 := hC7.turns hT8 (by omega)
          have hN8 := hN7.turns hT8 (by omega)
          have hBel8 : Below w3.heap.size w3 w8 := hBel7.trans (hT8.below hBel7.size (fun b hb => by omega))
          have hA8 : PaAt w8 a := hA3.below hBel8 (Nat.le_refl _)
          have hrow8 : w8.ownsRow w3.heap.size 105 6 u7 k (((mss a).take k).flatMap msL) := ownsRow_turns hrow7 hT8 (fun g hg => by have := hu7.out g hg; omega)
          have e2' := hC8.c2
          clear h3
          go_wp2_with fail
          have hask : Asks a w8 k kd (spAt a.sp x).k (szAt a x) (.slice (some ⟨gl, 0, none⟩) n lcap) u7 false := by
            by_cases hk0 : k = 0
            · exact .inl ⟨hk0, rfl⟩
            · exact .inr (.inl ⟨by omega, hv, rfl⟩)
          have hmeet : meetI (pf a k) (fc a k) = 0 := meet_no (fun h => by have := ((ker_iff _).1 h.2.1).1; rw [hfc.out] at this; rw [hv] at this; cases this)
          have hms := hwd.out 0 hmeet
          refine rm_r18 _ (fun _ _ _ _ _ h => h) _ _ w8 w.heap.size C M N k (by omega) a hsz hG.sp (x : Nat) (y : Nat) kd (szAt a x) (bw (bt a.t x) (szAt a x) + (spAt a.sp x).t) 0 (spAt a.sp x).s (spAt a.sp x).t (spAt a.sp x).k false hP8 hA8 hC8 hM8 hN8 hask ?_
          intro _ _ _ _ _ _ _ _ _ _ _ _ _ _ _ _ _ _ _ _ _ _ _ _ _ _ _ _ _ _ _ _ _ _ _ _ _ _ _ _ _ _ _ w9 hT9
          unfold fr18
          have hM9 := hM8.turns hT9 (fun h => h)
          have hb9 : Below w8.heap.size w8 w9 := hT9.below (Nat.le_refl _) (fun _ h => h.elim)
          have hrow9 := ownsRow_below hrow8 hb9
          have hBel9 := hBel8.trans (hb9.mono hBel8.size)
          go_wp2_with (first | (refine wpList_load_row rfl 105 _ rfl M rfl 105 _ (0, 0) _ hM9.row Try.underlying105 rfl info43n ?_) | (at_builtin; refine wpList_append_any _ rfl _ _ 101 rfl w3.heap.size 105 i0 _ 6 48 Try.underlying101 hi'.out hz0 hz1 hz2 rfl (by decide) _ k (((mss a).take k).flatMap msL) rfl (by exact hrow9.alloc _) 1 _ _ rfl (by exact src_one6 w9 [.int .i64 (x : Nat), .int .i64 (y : Nat), .int .i64 kd, .int .i64 (szAt a x), .int .i64 (bw (bt a.t x) (szAt a x) + (spAt a.sp x).t), .int .i64 (0)] 105 rfl (by intro u hu; simp at hu; rcases hu with rfl | rfl | rfl | rfl | rfl | rfl <;> rfl)) (by unfold maxLen; omega) (by omega) (by have := hBel9.size; simp; omega) ?_; intro v' w2' hown hgrow))
          have hkp2 : Hid (RK a w3 (k + 1) v' w2') := ⟨below_grown (hBel9.alloc hBel9.size _) (hrow9.alloc _) (Nat.le_refl _) (Nat.le_refl _) hgrow, by rw [rowM a hkn, hms]; exact hown⟩
          go_roundw
          case rel => exact ⟨k + 1, by omega, by simp, by rw [hri.out], hkp2⟩
          case measure => simp [intOf]; omega
        · have h3' : (kd == 3) = false := by simpa using h3
          by_cases h7 : kd = 7
          · have h7' : (kd == 7) = true := by simpa using h7
            have hk7 : kindI (bt a.t (st a.t k)) = 7 := by rw [hx'.out, hkd'.out]; exact h7
            obtain ⟨hr, hm1, hm2⟩ := hG.mark hkn hk7
            have hri : Hid (rI a.t (k + 1) = rI a.t k + 1) := rI_yes hk7
            have hrl : rI a.t k ≤ k := rI_le a.t k
            have hwd := hms0.out (widthI (a.ms[rI a.t k]'hr) (szAt a x)) (by unfold wdI; rw [hfc.out, hm1]; simp only; rw [if_neg (by omega), if_pos h7])
            replace hwd : Hid _ := hwd
            obtain ⟨adm, mc, hmv, hmr⟩ := hA7.ms.ex
            have k20 := hP7.c20
            rw [hmv] at k20
            rcases hmr with hm0 | ⟨g, o, rfl, hg, hmc⟩
            · rw [hm0] at hr; simp at hr
            · have hgm := hmc (rI a.t k) hr
              have hgM : g ≠ M := by
                obtain ⟨ad3, mc3, hmv3, hmr3⟩ := hA3.ms.ex
                rw [hmv] at hmv3
                cases hmv3
                rcases hmr3 with hm0 | ⟨g3, o3, e3, hg3, _⟩
                · rw [hm0] at hr; simp at hr
                · cases e3; omega
              have hrl' : ((rI a.t k : Nat) : Int) < a.ms.length := by omega
              replace hm1 : Hid _ := hm1
              replace hmc : Hid _ := hmc
              replace hmv : Hid _ := hmv
              clear hvis hk7
              go_wp2_with fail
              refine rm_r16 _ (fun _ _ _ _ _ h => h) _ _ w.heap.size M g o a.ms.length mc (rI a.t k) _ (a.ms[rI a.t k]'hr) (x : Nat) (y : Nat) kd (szAt a x) 0 0 (by omega) hrl' rfl hsr (by omega) hgM w7 k20 hgm hM7 ?_
              intro w8 hM8 hT8
              unfold fr18
              have hrk : ((rI a.t k : Nat) : Int) ≤ 4096 := by omega
              have hP8 := hP7.turns hT8 (by omega)
              have hC8 := hC7.turns hT8 (by omega)
              have hN8 := hN7.turns hT8 (by omega)
              have hBel8 : Below w3.heap.size w3 w8 := hBel7.trans (hT8.below hBel7.size (fun b hb => by omega))
              have hA8 : PaAt w8 a := hA3.below hBel8 (Nat.le_refl _)
              have hrow8 : w8.ownsRow w3.heap.size 105 6 u7 k (((mss a).take k).flatMap msL) := ownsRow_turns hrow7 hT8 (fun g hg => by have := hu7.out g hg; omega)
              clear h3 h7 hgm k20
              generalize hmk : a.ms[rI a.t k]'hr = mk at *
              go_wp2_with fail
              have hask : Asks a w8 k kd (spAt a.sp x).k (szAt a x) (.slice (some ⟨gl, 0, none⟩) n lcap) u7 false := by
                by_cases hk0 : k = 0
                · exact .inl ⟨hk0, rfl⟩
                · exact .inr (.inl ⟨by omega, hv, rfl⟩)
              have hmeet : meetI (pf a k) (fc a k) = 0 := meet_no (fun h => by have := ((ker_iff _).1 h.2.1).1; rw [hfc.out] at this; rw [hv] at this; cases this)
              have hms := hwd.out 0 hmeet
              refine rm_r18 _ (fun _ _ _ _ _ h => h) _ _ w8 w.heap.size C M N k (by omega) a hsz hG.sp (x : Nat) (y : Nat) kd (szAt a x) (widthI mk (szAt a x)) 0 (spAt a.sp x).s (spAt a.sp x).t (spAt a.sp x).k false hP8 hA8 hC8 hM8 hN8 hask ?_
              intro _ _ _ _ _ _ _ _ _ _ _ _ _ _ _ _ _ _ _ _ _ _ _ _ _ _ _ _ _ _ _ _ _ _ _ _ _ _ _ _ _ _ _ w9 hT9
              unfold fr18
              have hM9 := hM8.turns hT9 (fun h => h)
              have hb9 : Below w8.heap.size w8 w9 := hT9.below (Nat.le_refl _) (fun _ h => h.elim)
              have hrow9 := ownsRow_below hrow8 hb9
              have hBel9 := hBel8.trans (hb9.mono hBel8.size)
              go_wp2_with (first | (refine wpList_load_row rfl 105 _ rfl M rfl 105 _ (0, 0) _ hM9.row Try.underlying105 rfl info43n ?_) | (at_builtin; refine wpList_append_any _ rfl _ _ 101 rfl w3.heap.size 105 i0 _ 6 48 Try.underlying101 hi'.out hz0 hz1 hz2 rfl (by decide) _ k (((mss a).take k).flatMap msL) rfl (by exact hrow9.alloc _) 1 _ _ rfl (by exact src_one6 w9 [.int .i64 (x : Nat), .int .i64 (y : Nat), .int .i64 kd, .int .i64 (szAt a x), .int .i64 (widthI mk (szAt a x)), .int .i64 (0)] 105 rfl (by intro u hu; simp at hu; rcases hu with rfl | rfl | rfl | rfl | rfl | rfl <;> rfl)) (by unfold maxLen; omega) (by omega) (by have := hBel9.size; simp; omega) ?_; intro v' w2' hown hgrow))
              have hkp2 : Hid (RK a w3 (k + 1) v' w2') := ⟨below_grown (hBel9.alloc hBel9.size _) (hrow9.alloc _) (Nat.le_refl _) (Nat.le_refl _) hgrow, by rw [rowM a hkn, hms]; exact hown⟩
              go_roundw
              case rel => exact ⟨k + 1, by omega, by simp, by rw [hri.out]; simp, hkp2⟩
              case measure => simp [intOf]; omega
          · have h7' : (kd == 7) = false := by simpa using h7
            have hri : Hid (rI a.t (k + 1) = rI a.t k) := rI_no (by rw [hx'.out, hkd'.out]; exact h7)
            have hwd := hms0.out 0 (by unfold wdI; rw [hfc.out]; simp only; rw [if_neg (by omega), if_neg h7])
            replace hwd : Hid _ := hwd
            clear hvis h3 h7
            go_wp2_with fail
            have hask : Asks a w7 k kd (spAt a.sp x).k (szAt a x) (.slice (some ⟨gl, 0, none⟩) n lcap) u7 false := by
              by_cases hk0 : k = 0
              · exact .inl ⟨hk0, rfl⟩
              · exact .inr (.inl ⟨by omega, hv, rfl⟩)
            have hmeet : meetI (pf a k) (fc a k) = 0 := meet_no (fun h => by have := ((ker_iff _).1 h.2.1).1; rw [hfc.out] at this; rw [hv] at this; cases this)
            have hms := hwd.out 0 hmeet
            refine rm_r18 _ (fun _ _ _ _ _ h => h) _ _ w7 w.heap.size C M N k (by omega) a hsz hG.sp (x : Nat) (y : Nat) kd (szAt a x) (0) 0 (spAt a.sp x).s (spAt a.sp x).t (spAt a.sp x).k false hP7 hA7 hC7 hM7 hN7 hask ?_
            intro _ _ _ _ _ _ _ _ _ _ _ _ _ _ _ _ _ _ _ _ _ _ _ _ _ _ _ _ _ _ _ _ _ _ _ _ _ _ _ _ _ _ _ w9 hT9
            unfold fr18
            have hM9 := hM7.turns hT9 (fun h => h)
            have hb9 : Below w7.heap.size w7 w9 := hT9.below (Nat.le_refl _) (fun _ h => h.elim)
            have hrow9 := ownsRow_below hrow7 hb9
            have hBel9 := hBel7.trans (hb9.mono hBel7.size)
            go_wp2_with (first | (refine wpList_load_row rfl 105 _ rfl M rfl 105 _ (0, 0) _ hM9.row Try.underlying105 rfl info43n ?_) | (at_builtin; refine wpList_append_any _ rfl _ _ 101 rfl w3.heap.size 105 i0 _ 6 48 Try.underlying101 hi'.out hz0 hz1 hz2 rfl (by decide) _ k (((mss a).take k).flatMap msL) rfl (by exact hrow9.alloc _) 1 _ _ rfl (by exact src_one6 w9 [.int .i64 (x : Nat), .int .i64 (y : Nat), .int .i64 kd, .int .i64 (szAt a x), .int .i64 (0), .int .i64 (0)] 105 rfl (by intro u hu; simp at hu; rcases hu with rfl | rfl | rfl | rfl | rfl | rfl <;> rfl)) (by unfold maxLen; omega) (by omega) (by have := hBel9.size; simp; omega) ?_; intro v' w2' hown hgrow))
            have hkp2 : Hid (RK a w3 (k + 1) v' w2') := ⟨below_grown (hBel9.alloc hBel9.size _) (hrow9.alloc _) (Nat.le_refl _) (Nat.le_refl _) hgrow, by rw [rowM a hkn, hms]; exact hown⟩
            go_roundw
            case rel => exact ⟨k + 1, by omega, by simp, by rw [hri.out], hkp2⟩
            case measure => simp [intOf]; omega
      · have hv12 : kd = 1 ∨ kd = 2 := of_decide_eq_true hv
        rw [hv] at hvis
        refine (hvis _).mono ?_
        rintro e w' ⟨rfl, hww⟩
        subst w'
        have h7' : (kd == 7) = false := by rcases hv12 with h | h <;> simp [h]
        have hri : Hid (rI a.t (k + 1) = rI a.t k) := rI_no (by rw [hx'.out, hkd'.out]; omega)
        have hwd := hms0.out (bw (bt a.t x) (szAt a x) + (spAt a.sp x).t) (by unfold wdI; rw [hfc.out]; exact if_pos (by show kd = 1 ∨ kd = 2 ∨ kd = 3; omega))
        replace hwd : Hid _ := hwd
        clear hvis
        have hbw := bw_rng (bt a.t x) hsr.1 hsr.2
        go_wp2_with fail
        refine rm_r14 _ (fun _ _ _ _ _ h => h) _ _ w.heap.size C M N x a (y : Nat) kd (szAt a x) 0 0 (spAt a.sp x).s (spAt a.sp x).t (spAt a.sp x).k (bt a.t x) hxb hyb.out hbr hsr (wrap_id (by omega) (by omega)) (by omega) (by omega) (by omega) w7 hP7 hC7 hM7 hN7 ?_
        intro w8 hM8 hT8
        unfold fr18
        have hOL8 := (hT8.block gl (by omega) (by omega)).trans hOL7
        have hP8 := hP7.turns hT8 (by omega)
        have hC8 := hC7.turns hT8 (by omega)
        have hN8 := hN7.turns hT8 (by omega)
        have hBel8 : Below w3.heap.size w3 w8 := hBel7.trans (hT8.below hBel7.size (fun b hb => by omega))
        have hA8 : PaAt w8 a := hA3.below hBel8 (Nat.le_refl _)
        have hrow8 : w8.ownsRow w3.heap.size 105 6 u7 k (((mss a).take k).flatMap msL) := ownsRow_turns hrow7 hT8 (fun g hg => by have := hu7.out g hg; omega)
        have e2' := hC8.c2
        replace hv12 : Hid _ := hv12
        go_wp2_with fail
        obtain ⟨c, hask, hcF, hcT⟩ : ∃ c, Asks a w8 k kd (spAt a.sp x).k (szAt a x) (.slice (some ⟨gl, 0, none⟩) n lcap) u7 c ∧ (c = false → meetI (pf a k) (fc a k) = 0) ∧ (c = true → 0 < k ∧ meetI (pf a k) (fc a k) = kernI (bt a.t (st a.t (k - 1))) (bt a.t x) (szAt a x)) := by
          by_cases hk0 : k = 0
          · refine ⟨false, .inl ⟨hk0, rfl⟩, fun _ => ?_, fun h => by cases h⟩
            rw [hk0]
            exact meet_no (fun h => absurd (show kerB fc0 = true from h.1) (by decide))
          · have hk1 : k - 1 < num a.t := by omega
            have hpf : pf a k = fc a (k - 1) := by
              obtain ⟨j, rfl⟩ : ∃ j, k = j + 1 := ⟨k - 1, by omega⟩
              rfl
            obtain ⟨p0, p1, p2⟩ := hcells.out w8 hOL8 (k - 1) hk1
            rcases hrow8.2 with ⟨_, h0⟩ | ⟨T, cap, cur, hu, hbT, hg, r⟩
            · omega
            · have hT : T < w8.heap.size := (Array.getElem?_eq_some_iff.1 hg).1
              have hl : k - 1 < ((mss a).take k).length := by rw [List.length_take, mss_len]; omega
              have hrc := hrow8.cells (g := T) (by rw [hu]; rfl) ((k - 1) * 6 + 3) (.int .i64 (szAt a (st a.t (k - 1) : Nat))) (by
                rw [fm_get msL_len _ hl 3 (by omega), List.getElem_take, mss_get]; rfl)
              rw [addr_add0] at hrc
              refine ⟨_, .inr (.inr ⟨by omega, hv, gl, n, lcap, st a.t (k - 1), T, k, cap, _, _, rfl, by have := hT8.size; omega, by omega, p2, p0, num_lt hk1, hu, hT, by omega, hrc, rfl⟩), fun hc => ?_, fun hc => ⟨by omega, ?_⟩⟩
              · rw [hpf, hfc.out]
                refine meet_no (fun h => ?_)
                have q1 : visK (kindI (bt a.t (st a.t (k - 1)))) = true ∧ (spAt a.sp (st a.t (k - 1) : Nat)).k = 1 := (ker_iff _).1 h.1
                have q2 : visK kd = true ∧ (spAt a.sp x).k = 1 := (ker_iff _).1 h.2.1
                have q3 : szAt a (st a.t (k - 1) : Nat) = szAt a x := h.2.2
                rw [q1.1, decide_eq_true q2.2, decide_eq_true q1.2, decide_eq_true q3] at hc
                cases hc
              · simp only [Bool.and_eq_true, decide_eq_true_eq] at hc
                rw [hpf, hfc.out]
                exact meet_yes ⟨(ker_iff _).2 ⟨hc.1, hc.2.2.1⟩, (ker_iff _).2 ⟨hv, hc.2.1⟩, hc.2.2.2⟩
        have hcF' : Hid (c = false → meetI (pf a k) (fc a k) = 0) := hcF
        have hcT' : Hid (c = true → 0 < k ∧ meetI (pf a k) (fc a k) = kernI (bt a.t (st a.t (k - 1))) (bt a.t x) (szAt a x)) := hcT
        clear hcF hcT
        refine rm_r18 _ (fun _ _ _ _ _ h => h) _ _ w8 w.heap.size C M N k (by omega) a hsz hG.sp (x : Nat) (y : Nat) kd (szAt a x) (bw (bt a.t x) (szAt a x) + (spAt a.sp x).t) 0 (spAt a.sp x).s (spAt a.sp x).t (spAt a.sp x).k c hP8 hA8 hC8 hM8 hN8 hask ?_
        intro _ _ _ _ _ _ _ _ _ _ _ _ _ _ _ _ _ _ _ _ _ _ _ _ _ _ _ _ _ _ _ _ _ _ _ _ _ _ _ _ _ _ _ w9 hT9
        unfold fr18
        have hM9 := hM8.turns hT9 (fun h => h)
        have hb9 : Below w8.heap.size w8 w9 := hT9.below (Nat.le_refl _) (fun _ h => h.elim)
        have hrow9 := ownsRow_below hrow8 hb9
        have hBel9 := hBel8.trans (hb9.mono hBel8.size)
        cases c
        · have hms := hwd.out 0 (hcF'.out rfl)
          clear hcF' hcT' hask
          go_wp2_with (first | (refine wpList_load_row rfl 105 _ rfl M rfl 105 _ (0, 0) _ hM9.row Try.underlying105 rfl info43n ?_) | (at_builtin; refine wpList_append_any _ rfl _ _ 101 rfl w3.heap.size 105 i0 _ 6 48 Try.underlying101 hi'.out hz0 hz1 hz2 rfl (by decide) _ k (((mss a).take k).flatMap msL) rfl (by exact hrow9.alloc _) 1 _ _ rfl (by exact src_one6 w9 [.int .i64 (x : Nat), .int .i64 (y : Nat), .int .i64 kd, .int .i64 (szAt a x), .int .i64 (bw (bt a.t x) (szAt a x) + (spAt a.sp x).t), .int .i64 (0)] 105 rfl (by intro u hu; simp at hu; rcases hu with rfl | rfl | rfl | rfl | rfl | rfl <;> rfl)) (by unfold maxLen; omega) (by omega) (by have := hBel9.size; simp; omega) ?_; intro v' w2' hown hgrow))
          have hkp2 : Hid (RK a w3 (k + 1) v' w2') := ⟨below_grown (hBel9.alloc hBel9.size _) (hrow9.alloc _) (Nat.le_refl _) (Nat.le_refl _) hgrow, by rw [rowM a hkn, hms]; exact hown⟩
          go_roundw
          case rel => exact ⟨k + 1, by omega, by simp, by rw [hri.out], hkp2⟩
          case measure => simp [intOf]; omega
        · obtain ⟨hk0, hmeet⟩ := hcT'.out rfl
          have hms := hwd.out _ hmeet
          have hk1 : k - 1 < num a.t := by omega
          have hx1 := num_lt hk1
          have hP9 := hP8.turns hT9 (fun h => h)
          have hC9 := hC8.turns hT9 (fun h => h)
          have hOL9 := (hT9.block gl (by have := hT8.size; omega) (fun h => h)).trans hOL8
          obtain ⟨p0, _, _⟩ := hcells.out w9 hOL9 (k - 1) hk1
          replace p0 : Hid _ := p0
          replace hms : Hid _ := hms
          have hs9 := hb9.size
          have hs8 := hT8.size
          clear hcF' hcT' hask hmeet
          go_wp2_with fail
          refine rm_r19 _ (fun _ _ _ _ _ h => h) _ _ w.heap.size C M gl 0 n lcap k (k - 1) _ x (st a.t (k - 1)) a (y : Nat) kd (szAt a x) (bw (bt a.t x) (szAt a x) + (spAt a.sp x).t) 0 (bt a.t x) (bt a.t (st a.t (k - 1))) hxb hyb.out hbr hx1 (bt_eq hx1).symm (bt_rng _ _) hsr (by rw [wrap_id (by omega) (by omega)]; omega) (by omega) (Nat.zero_add _) (by omega) (by omega) (by omega) w9 hP9 hC9 hM9 (by omega) p0.out ?_
          intro w10 hMx hTx
          unfold fr18
          have hBelx : Below w3.heap.size w3 w10 := hBel9.trans (hTx.below hBel9.size (fun b hb => by omega))
          have hrowx : w10.ownsRow w3.heap.size 105 6 u7 k (((mss a).take k).flatMap msL) := ownsRow_turns hrow9 hTx (fun g hg => by have := hu7.out g hg; omega)
          replace hms := hms.out
          go_wp2_with (first | (refine wpList_load_row rfl 105 _ rfl M rfl 105 _ (0, 0) _ hMx.row Try.underlying105 rfl info43n ?_) | (at_builtin; refine wpList_append_any _ rfl _ _ 101 rfl w3.heap.size 105 i0 _ 6 48 Try.underlying101 hi'.out hz0 hz1 hz2 rfl (by decide) _ k (((mss a).take k).flatMap msL) rfl (by exact hrowx.alloc _) 1 _ _ rfl (by exact src_one6 w10 [.int .i64 (x : Nat), .int .i64 (y : Nat), .int .i64 kd, .int .i64 (szAt a x), .int .i64 (bw (bt a.t x) (szAt a x) + (spAt a.sp x).t), .int .i64 (kernI (bt a.t (st a.t (k - 1))) (bt a.t x) (szAt a x))] 105 rfl (by intro u hu; simp at hu; rcases hu with rfl | rfl | rfl | rfl | rfl | rfl <;> rfl)) (by unfold maxLen; omega) (by omega) (by have := hBelx.size; simp; omega) ?_; intro v' w2' hown hgrow))
          have hkp2 : Hid (RK a w3 (k + 1) v' w2') := ⟨below_grown (hBelx.alloc hBelx.size _) (hrowx.alloc _) (Nat.le_refl _) (Nat.le_refl _) hgrow, by rw [rowM a hkn, hms]; exact hown⟩
          go_roundw
          case rel => exact ⟨k + 1, by omega, by simp, by rw [hri.out], hkp2⟩
          case measure => simp [intOf]; omega
    · obtain rfl : k = n := by omega
      have hrow2 : Hid (wr.ownsRow w.heap.size 105 6 u7 (num a.t) ((mss a).flatMap msL)) := by
        have h := ownsRow_base hrow hB3.size
        rw [List.take_of_length_le (by rw [mss_len, hn'.out]; exact Nat.le_refl _)] at h
        rw [hn'.out]
        exact h
      have hbl : Hid (Below w.heap.size w wr) := hB3.trans (hbel.mono hB3.size)
      clear hrow hbel hkp
      go_wp2_with fail
      go_ret2
      exact hE.out _ _ hrow2.out hbl.out

theorem rmasses_any (a : Pa) (hlb : a.lb.size ≤ 9223372036854775807) (hms : ∀ i (h : i < a.ms.length), (a.ms[i]).size ≤ 9223372036854775807) (w : World) (hA : PaAt w a) : Calls Try.prog 55 #[paV a] w (MassEnd a w) := by
  by_cases h : chkI a = 0
  · exact rmasses_ok a hlb hms w hA h
  · exact rmasses_no a hlb hms w hA h
end Go.Proofs.Ytkhnfmdhdfpdhaa

namespace Go.Proofs.Ytkhnfmdhdfpdhaa
open Go.RowKit Go.Shelf

set_option maxRecDepth 100000 in
set_option maxHeartbeats 4000000 in
theorem rrun_any (v : Value) (l : List Ms) (hall : l.all mOk = true) (f t : Nat) (hft : f ≤ t) (htl : t ≤ l.length) (hl : l.length ≤ 4096) (w : World) (hS : RecAt 6 msL w v l) :
    Calls Try.prog 56 #[v, .int .i64 f, .int .i64 t] w fun e w' => e = .returned (.int .i64 (runN l f (t - f))) ∧ w' = w := by
  obtain ⟨a, cap, rfl, h2⟩ := hS.ex
  clear hS
  have hrun : Hid (∀ k, k = t - f → runN l f k = runN l f (t - f)) := fun k e => by rw [e]
  go_enter Try.func56, Try.ntmps56
  go_wp2_with fail
  go_loopw [7, 8] (fun n i wr => ∃ j : Nat, f + j ≤ t ∧ i = .int .i64 (f + j : Nat) ∧ n = .int .i64 (runN l f j) ∧ wr = w) (fun _ i _ => t - (intOf i).toNat)
  case atStart => exact ⟨0, by omega, rfl, rfl, rfl⟩
  case round =>
    obtain ⟨j, hj, rfl, rfl, rfl⟩ := hrel
    by_cases hlt : f + j < t
    · rcases h2 with h2 | ⟨b, o, rfl, hbl, hc⟩
      · rw [h2] at htl; simp at htl; omega
      · have hjl : f + j < l.length := by omega
        have c4 : wr.cell? ⟨b, o + (f + j) * 6 + 4, none⟩ = some (.int .i64 l[f + j].w) := hc (f + j) hjl 4 _ rfl
        have c5 : wr.cell? ⟨b, o + (f + j) * 6 + 5, none⟩ = some (.int .i64 l[f + j].q) := hc (f + j) hjl 5 _ rfl
        have hr0 := run_rng hall f j (by omega)
        have hm := all_at hall hjl
        unfold mOk at hm
        rw [decide_eq_true_eq] at hm
        have hst : Hid (runN l f (j + 1) = runN l f j + l[f + j].w + (if 0 < j then l[f + j].q else 0)) := by
          show runN l f j + (l.getD (f + j) ms0).w + (if 0 < j then (l.getD (f + j) ms0).q else 0) = _
          rw [getD_is hjl]
        obtain ⟨p, hp⟩ : ∃ p, f + j = p := ⟨_, rfl⟩
        have hp' : Hid (f + j = p) := hp
        have hpl : (p : Int) < l.length := by omega
        have hpt : (p : Int) < t := by omega
        clear hc hrun
        generalize l[f + j].w = x4 at *
        generalize l[f + j].q = x5 at *
        generalize hR : runN l f j = R at *
        obtain ⟨⟨m0, m1⟩, m2, m3⟩ := hm
        obtain ⟨r0, r1⟩ := hr0
        have hj4 : j ≤ 4096 := by omega
        rw [hp] at c4 c5 hlt hj hjl ⊢
        by_cases hj0 : j = 0
        · have hz : Hid (runN l f (j + 1) = R + x4) := hst.out.trans (by rw [if_neg (by omega), Int.add_zero])
          have hj0' : ¬ (f : Int) < p := by omega
          have hj0'' : decide ((f : Int) < p) = false := decide_eq_false hj0'
          clear hst hj0 hR hp
          go_wp2_with fail
          go_roundw
          case rel => exact ⟨j + 1, by have := hp'.out; omega, by have := hp'.out; simp; omega, by rw [hz.out], by first | rfl | trivial⟩
          case measure => simp [intOf]; omega
        · have hz : Hid (runN l f (j + 1) = R + x4 + x5) := hst.out.trans (by rw [if_pos (by omega)])
          have hj0' : (f : Int) < p := by omega
          clear hst hj0 hR hp
          go_wp2_with fail
          go_roundw
          case rel => exact ⟨j + 1, by have := hp'.out; omega, by have := hp'.out; simp; omega, by rw [hz.out], by first | rfl | trivial⟩
          case measure => simp [intOf]; omega
    · have hge : ¬ ((f + j : Nat) : Int) < t := by omega
      have hv : Hid (runN l f j = runN l f (t - f)) := hrun.out j (by omega)
      clear hrun h2
      go_wp2_with fail
      go_ret
      exact ⟨by rw [← hv.out]; rfl, rfl⟩

end Go.Proofs.Ytkhnfmdhdfpdhaa
