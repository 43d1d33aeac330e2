/-
  What is proved here: widths of runs add up; the masses that Masses tells may be; Pick; the walk of MetricJoins.
-/
import Derived.Test.YtidmmllbobimeaaKnown
import Derived.Test.YtidmmllbobimeaaJoinR
namespace Go.Proofs.Ytidmmllbobimeaa
open Go.RowKit Go.Shelf

theorem run_join' (l : List Ms) (a m : Nat) (hm : 0 < m) : ∀ n, runN l a (m + n) = runN l a m + runN l (a + m) n + (if 0 < n then (l.getD (a + m) ms0).q else 0)
  | 0 => by simp [runN]
  | n + 1 => by
    have ih := run_join' l a m hm n
    show runN l a (m + n) + (l.getD (a + (m + n)) ms0).w + (if 0 < m + n then (l.getD (a + (m + n)) ms0).q else 0) = runN l a m + (runN l (a + m) n + (l.getD (a + m + n) ms0).w + (if 0 < n then (l.getD (a + m + n) ms0).q else 0)) + (if 0 < n + 1 then (l.getD (a + m) ms0).q else 0)
    rw [ih, show a + (m + n) = a + m + n by omega, if_pos (show 0 < m + n by omega), if_pos (show 0 < n + 1 by omega)]
    by_cases hn : 0 < n
    · rw [if_pos hn, if_pos hn]; omega
    · obtain rfl : n = 0 := by omega
      rw [if_neg (by omega), if_neg (by omega)]
      simp only [runN, Nat.add_zero]; omega
theorem run_join (l : List Ms) (a m n : Nat) : runN l a (m + n) = runN l a m + runN l (a + m) n + (if 0 < m ∧ 0 < n then (l.getD (a + m) ms0).q else 0) := by
  by_cases hm : 0 < m
  · rw [run_join' l a m hm n]
    by_cases hn : 0 < n
    · rw [if_pos hn, if_pos ⟨hm, hn⟩]
    · rw [if_neg hn, if_neg (fun h => hn h.2)]
  · obtain rfl : m = 0 := by omega
    rw [if_neg (fun h => hm h.1), Nat.zero_add, Nat.add_zero]
    simp [runN]

theorem GoodP.mass {a : Pa} (h : GoodP a) {i : Nat} (hi : i < num a.t) : (0 ≤ (msI a i).w ∧ (msI a i).w ≤ 4095) ∧ (-64 ≤ (msI a i).q ∧ (msI a i).q ≤ 0) := by
  have hf := h.fok hi
  refine ⟨?_, ?_⟩
  · show 0 ≤ wdI (fc a i) (mkAt a i) ∧ wdI (fc a i) (mkAt a i) ≤ 4095
    unfold wdI
    split
    · have := bw_rng (fc a i).b hf.s.1 hf.s.2
      have := hf.t
      omega
    · split
      · rename_i h7
        obtain ⟨hr, hm1, hm2⟩ := h.mark hi h7
        rw [hm1]
        have := tw_rng a.ms[rI a.t i] hf.s.1 hf.s.2 a.ms[rI a.t i].size
        unfold widthI
        omega
      · omega
  · show -64 ≤ meetI (pf a i) (fc a i) ∧ meetI (pf a i) (fc a i) ≤ 0
    unfold meetI
    split
    · have := kernI_rng (pf a i).b (fc a i).b hf.s.1 hf.s.2
      omega
    · omega
theorem GoodP.all {a : Pa} (h : GoodP a) : (mss a).all mOk = true := all_yes (fun k hk => by
  rw [mss_get]
  unfold mOk
  exact decide_eq_true (h.mass (by rwa [mss_len] at hk)))

set_option maxRecDepth 100000 in
set_option maxHeartbeats 1000000 in
theorem pick_any (x : Int) (n : Nat) (h1 : 1 ≤ n) (h2 : n ≤ 5000) (w : World) : Calls Try.prog 28 #[.int .i64 x, .int .i64 n] w fun e w' => ∃ r : Nat, r < n ∧ e = .returned (.int .i64 (r : Nat)) ∧ w' = w := by
  have t1 := Int.tmod_lt_of_pos x (show (0 : Int) < n by omega)
  have t2 : -(n : Int) < x.tmod n := by
    have := Int.lt_tmod_of_pos x (show (0 : Int) < n by omega)
    omega
  have hn0 : ¬ (n : Int) = 0 := by omega
  generalize hm : x.tmod n = m at *
  by_cases h3 : m < 0
  · obtain ⟨r, hr⟩ : ∃ r : Nat, m + n = r := ⟨(m + n).toNat, by omega⟩
    have hr' : Hid (m + n = r) := hr
    clear hr
    go_enter Try.func28, Try.ntmps28
    go_wp2_with fail
    go_ret
    exact ⟨r, by have := hr'.out; omega, by rw [← hr'.out]; rfl, rfl⟩
  · obtain ⟨r, hr⟩ : ∃ r : Nat, m = r := ⟨m.toNat, by omega⟩
    have hr' : Hid (m = r) := hr
    clear hr
    go_enter Try.func28, Try.ntmps28
    go_wp2_with fail
    go_ret
    exact ⟨r, by have := hr'.out; omega, by rw [← hr'.out]; rfl, rfl⟩

/-- A cluster, as a record. -/
def clR (t : ByteArray) (i : Nat) : List Value := clC t i
theorem rowC_fm (t : ByteArray) : ∀ n, rowC t n = (List.range n).flatMap (clR t)
  | 0 => rfl
  | n + 1 => by rw [List.range_succ, List.flatMap_append, ← rowC_fm t n]; simp [clR, rowC]

set_option maxRecDepth 100000 in
set_option maxHeartbeats 4000000 in
theorem joins_no (a : Pa) (x y z : Int) (w : World) (hA : PaAt w a) (h : chkI a ≠ 0) : Calls Try.prog 7 #[paV a, .int .i64 x, .int .i64 y, .int .i64 z] w fun e w' => e = .returned (.bool true) ∧ Below w.heap.size w w' := by
  have hB := (Below.refl w.heap.size w).alloc (Nat.le_refl _) (Obj.cells (paC a) 34)
  have hP := PB.new w a
  have hA1 := hA.below hB (Nat.le_refl _)
  have hs : ∀ W : World, Calls Try.prog 27 #[.string a.t] W fun e w' => ∃ v c, e = .returned (.tuple #[v, .int .i64 c]) ∧ Below W.heap.size W w' := fun W => by
    by_cases hw : wrongI a.t = 0
    · refine (split_ok a.t hw W).mono ?_
      rintro e w' ⟨v, rfl, _, hb⟩
      exact ⟨v, 0, rfl, hb⟩
    · refine (split_no a.t hw W).mono ?_
      rintro e w' ⟨rfl, rfl⟩
      exact ⟨_, _, rfl, Below.refl _ _⟩
  have h' : (chkI a == 0) = false := by simpa using h
  have hm := fun W hA => masses_any a W hA
  unfold MassEnd at hm
  unfold paV at hm ⊢
  generalize hw1 : w.alloc (.cells (paC a) 34) = w1 at *
  go_enter Try.func7, Try.ntmps7
  go_wp2_with fail
  refine (known_any w1).mono ?_
  rintro e w2 ⟨rfl, b2⟩
  have hP2 := hP.below b2 hP.lt
  have hA2 := hA1.below b2 (Nat.le_refl _)
  have hB2 := hB.trans (b2.mono hB.size)
  go_wp2_with (refine wpList_load_row rfl 34 _ rfl w.heap.size rfl 34 _ (0, 0) _ hP2.row Try.underlying34 rfl (info34 a) ?_)
  refine (hm w2 hA2).mono ?_
  rintro e w3 ⟨⟨v, rfl, hv⟩, b3⟩
  have hv' : v = .slice none 0 0 := by
    rcases hv with ⟨_, e⟩ | ⟨e, _⟩
    · exact e
    · exact absurd e h
  subst hv'
  have hP3 := hP2.below b3 hP2.lt
  have hB3 := hB2.trans (b3.mono hB2.size)
  have c0 := hP3.c0
  clear hv hm hA1 hA2 hP hP2
  generalize chkI a = n at *
  go_wp2_with fail
  refine (hs w3).mono ?_
  rintro e w4 ⟨u, c, rfl, b4⟩
  have hB4 := hB3.trans (b4.mono hB3.size)
  go_wp2_with fail
  go_ret
  exact ⟨rfl, hB4⟩

set_option maxRecDepth 100000 in
set_option maxHeartbeats 8000000 in
theorem joins_ok (a : Pa) (x y z : Int) (w : World) (hA : PaAt w a) (h : chkI a = 0) : Calls Try.prog 7 #[paV a, .int .i64 x, .int .i64 y, .int .i64 z] w fun e w' => e = .returned (.bool true) ∧ Below w.heap.size w w' := by
  have hG := good_of h
  have hB := (Below.refl w.heap.size w).alloc (Nat.le_refl _) (Obj.cells (paC a) 34)
  have hP := PB.new w a
  have hA1 := hA.below hB (Nat.le_refl _)
  have hs := split_ok a.t hG.wr
  have hm := fun W hA => masses_any a W hA
  unfold MassEnd at hm
  unfold paV at hm ⊢
  rw [h] at hm
  have hnum := num_le a.t
  have hsz := hG.size
  generalize hw1 : w.alloc (.cells (paC a) 34) = w1 at *
  go_enter Try.func7, Try.ntmps7
  go_wp2_with fail
  refine (known_any w1).mono ?_
  rintro e w2 ⟨rfl, b2⟩
  have hP2 := hP.below b2 hP.lt
  have hA2 := hA1.below b2 (Nat.le_refl _)
  have hB2 := hB.trans (b2.mono hB.size)
  go_wp2_with (refine wpList_load_row rfl 34 _ rfl w.heap.size rfl 34 _ (0, 0) _ hP2.row Try.underlying34 rfl (info34 a) ?_)
  refine (hm w2 hA2).mono ?_
  rintro e w3 ⟨⟨v, rfl, hv⟩, b3⟩
  have hown : w3.ownsRow w2.heap.size 43 6 v (num a.t) ((mss a).flatMap msL) := by
    rcases hv with ⟨e, _⟩ | ⟨_, e⟩
    · exact absurd rfl e
    · exact e
  have hP3 := hP2.below b3 hP2.lt
  have hB3 := hB2.trans (b3.mono hB2.size)
  have c0 := hP3.c0
  have hR3 : RecAt 6 msL w3 v (mss a) := rec_of_row msL_len (mss_len a).symm hown
  clear hv hm hA1 hA2 hP hP2 hown
  go_wp2_with fail
  refine (hs w3).mono ?_
  rintro e w4 ⟨u, rfl, hown4, b4⟩
  have hB4 := hB3.trans (b4.mono hB3.size)
  have hR4 := hR3.below b4 (Nat.le_refl _)
  rw [rowC_fm] at hown4
  have hU4 : RecAt 3 (clR a.t) w4 u (List.range (num a.t)) := rec_of_row (k := 3) (f := clR a.t) (fun _ => rfl) List.length_range.symm hown4
  have hR4' : Hid (RecAt 6 msL w4 v (mss a)) := hR4
  obtain ⟨ad, c1, hv, h2⟩ := hR4.ex
  obtain ⟨ae, c2, hu, h3⟩ := hU4.ex
  rw [mss_len] at hv
  rw [List.length_range] at hu
  have hcl : Hid (∀ k, k < num a.t → ∃ g o h o2, ad = some ⟨g, o, none⟩ ∧ ae = some ⟨h, o2, none⟩ ∧ g < w4.heap.size ∧ h < w4.heap.size ∧ (∀ j u, (msL (msI a k))[j]? = some u → w4.cell? ⟨g, o + k * 6 + j, none⟩ = some u) ∧ (∀ j u, (clC a.t k)[j]? = some u → w4.cell? ⟨h, o2 + k * 3 + j, none⟩ = some u)) := fun k hk => by
    rcases h2 with h2 | ⟨g, o, e1, hg, hc⟩
    · have : (mss a).length = 0 := by rw [h2]; rfl
      rw [mss_len] at this; omega
    · rcases h3 with h3 | ⟨h, o2, e2, hh, hd⟩
      · have : (List.range (num a.t)).length = 0 := by rw [h3]; rfl
        rw [List.length_range] at this; omega
      · refine ⟨g, o, h, o2, e1, e2, hg, hh, fun j u hu => ?_, fun j u hu => ?_⟩
        · exact hc k (by rw [mss_len]; exact hk) j u (by rw [mss_get]; exact hu)
        · exact hd k (by rw [List.length_range]; exact hk) j u (by simpa [clR] using hu)
  subst hv hu
  have hN : Hid (∀ (f t : Int) (W : World), RecAt 6 msL W (.slice ad (num a.t) c1) (mss a) → Calls Try.prog 23 #[.slice ad (num a.t) c1, .int .i64 f, .int .i64 t] W fun e w' => e = .returned (.tuple #[.int .i64 (natV (mss a) f t), .int .i64 (natE (mss a) f t)]) ∧ Below W.heap.size W w') := fun f t W hR => natural_any _ _ (by rw [mss_len]; omega) f t W hR
  have hNV : Hid (∀ f t : Nat, f ≤ t → t ≤ num a.t → natE (mss a) f t = 0 ∧ natV (mss a) f t = runN (mss a) f (t - f)) := fun f t h1 h2 => by
    have e : natE (mss a) f t = 0 := by
      unfold natE
      rw [if_neg (by rw [mss_len]; omega), if_pos hG.all, if_pos (by rw [mss_len]; omega)]
    refine ⟨e, ?_⟩
    unfold natV
    rw [if_pos e]; rfl
  have hbig : ∀ f k, f + k ≤ num a.t → -300000 ≤ runN (mss a) f k ∧ runN (mss a) f k ≤ 17000000 := fun f k hk => by
    have := run_rng hG.all f k (by rw [mss_len]; exact hk)
    omega
  have hbig' : Hid (∀ f k, f + k ≤ num a.t → -300000 ≤ runN (mss a) f k ∧ runN (mss a) f k ≤ 17000000) := hbig
  obtain ⟨n, hn⟩ : ∃ n, num a.t = n := ⟨_, rfl⟩
  have hn' : Hid (num a.t = n) := hn
  have hn4 : n ≤ 4096 := by omega
  have hmass : Hid (∀ k, k < n → ((0 ≤ (msI a k).w ∧ (msI a k).w ≤ 4095) ∧ (-64 ≤ (msI a k).q ∧ (msI a k).q ≤ 0))) := fun k hk => hG.mass (by rw [hn'.out]; exact hk)
  rw [hn]
  rw [hn] at hR4'
  clear hn hbig hs h2 h3 hU4 hR4 hR3 hown4 hnum
  go_wp2_with fail
  go_loopw [14] (fun i wr => ∃ k : Nat, k ≤ n ∧ i = .int .i64 k ∧ Below w4.heap.size w4 wr) (fun i _ => n - (intOf i).toNat)
  case atStart => exact ⟨0, by omega, rfl, Below.refl _ _⟩
  case round =>
    obtain ⟨k, hk, rfl, hb⟩ := hrel
    by_cases hlt : k < n
    · obtain ⟨g, o, h, o2, rfl, rfl, hg, hh, hc, hd⟩ := hcl.out k (by rw [hn'.out]; exact hlt)
      have hlt' : (k : Int) < n := by omega
      have hmk := hmass.out k hlt
      obtain ⟨p, hp⟩ : ∃ p, o + k * 6 = p := ⟨_, rfl⟩
      obtain ⟨q, hq⟩ : ∃ q, o2 + k * 3 = q := ⟨_, rfl⟩
      rw [hp] at hc
      rw [hq] at hd
      have hS0 : (wr.cell? ⟨g, p, none⟩ = some (.int .i64 (msI a k).f) ∧ wr.cell? ⟨g, p + 1, none⟩ = some (.int .i64 (msI a k).t) ∧ wr.cell? ⟨g, p + 2, none⟩ = some (.int .i64 (msI a k).k) ∧ wr.cell? ⟨g, p + 4, none⟩ = some (.int .i64 (msI a k).w) ∧ wr.cell? ⟨g, p + 5, none⟩ = some (.int .i64 (msI a k).q)) ∧
          wr.cell? ⟨h, q, none⟩ = some (.int .i64 (msI a k).f) ∧ wr.cell? ⟨h, q + 1, none⟩ = some (.int .i64 (msI a k).t) ∧ wr.cell? ⟨h, q + 2, none⟩ = some (.int .i64 (msI a k).k) :=
        ⟨⟨(hb.cell hg).trans (hc 0 _ rfl), (hb.cell hg).trans (hc 1 _ rfl), (hb.cell hg).trans (hc 2 _ rfl), (hb.cell hg).trans (hc 4 _ rfl), (hb.cell hg).trans (hc 5 _ rfl)⟩, (hb.cell hh).trans (hd 0 _ rfl), (hb.cell hh).trans (hd 1 _ rfl), (hb.cell hh).trans (hd 2 _ rfl)⟩
      clear hc hd hcl hmass
      go_wp2_with fail
      refine join_r11 _ (fun _ _ _ _ _ h => h) _ _ g o n c1 h o2 c2 k p q _ _ _ _ _ hlt' hp hq (by omega) (by omega) wr hS0 ?_
      unfold fr7
      clear hS0 hmk
      go_wp2_with fail
      go_roundw
      case rel => exact ⟨k + 1, by omega, by simp, below_drewN hb 1⟩
      case measure => simp [intOf]; omega
    · obtain rfl : k = n := by omega
      have hge : ¬ ((k : Int) < k) := by omega
      have hB5 := hB4.trans (hb.mono hB4.size)
      have hR5 : Hid (RecAt 6 msL wr (.slice ad k c1) (mss a)) := hR4'.out.below hb (Nat.le_refl _)
      have hN' : Hid (∀ (f t : Int) (W : World), RecAt 6 msL W (.slice ad k c1) (mss a) → Calls Try.prog 23 #[.slice ad k c1, .int .i64 f, .int .i64 t] W fun e w' => e = .returned (.tuple #[.int .i64 (natV (mss a) f t), .int .i64 (natE (mss a) f t)]) ∧ Below W.heap.size W w') := by
        have := hN.out
        rw [hn'.out] at this
        exact this
      clear hN hR4' hmass
      have e1 : ((k + 1 : Nat) : Int) = (k : Int) + 1 := by omega
      have hp1 := pick_any x (k + 1) (by omega) (by omega) wr
      rw [e1] at hp1
      go_wp2_with fail
      refine hp1.mono ?_
      rintro e w' ⟨A, hA1, rfl, hww⟩
      subst w'
      have e2 : ((k + 1 - A : Nat) : Int) = (k : Int) + 1 - A := by omega
      have hp2 := pick_any y (k + 1 - A) (by omega) (by omega) wr
      rw [e2] at hp2
      clear hp1 e1 e2
      go_wp2_with fail
      refine hp2.mono ?_
      rintro e w' ⟨r2, hA2, rfl, hww⟩
      subst w'
      have e3 : ((k + 1 - (A + r2) : Nat) : Int) = (k : Int) + 1 - (A + r2) := by omega
      have hp3 := pick_any z (k + 1 - (A + r2)) (by omega) (by omega) wr
      rw [e3] at hp3
      clear hp2 e3
      go_wp2_with fail
      refine hp3.mono ?_
      rintro e w' ⟨r3, hA3, rfl, hww⟩
      subst w'
      clear hp3
      have hk' : num a.t = k := hn'.out
      obtain ⟨q1, q2⟩ := hNV.out A (A + r2) (by omega) (by omega)
      obtain ⟨q3, q4⟩ := hNV.out (A + r2) (A + r2 + r3) (by omega) (by omega)
      obtain ⟨q5, q6⟩ := hNV.out A (A + r2 + r3) (by omega) (by omega)
      have s1 : ((A + r2 : Nat) : Int) = (A : Int) + r2 := by omega
      have s2 : ((A + r2 + r3 : Nat) : Int) = (A : Int) + r2 + r3 := by omega
      have hb1 := hbig'.out A r2 (by omega)
      have hb2 := hbig'.out (A + r2) r3 (by omega)
      have hj := run_join (mss a) A r2 r3
      have hN1 := hN'.out A (A + r2 : Nat) wr hR5.out
      rw [q1, q2, s1, show A + r2 - A = r2 by omega] at hN1
      go_wp2_with fail
      refine hN1.mono ?_
      rintro e w6 ⟨rfl, b6⟩
      have hR6 := hR5.out.below b6 (Nat.le_refl _)
      have hB6 := hB5.trans (b6.mono hB5.size)
      have hN2 := hN'.out (A + r2 : Nat) (A + r2 + r3 : Nat) w6 hR6
      rw [q3, q4, s1, s2, show A + r2 + r3 - (A + r2) = r3 by omega] at hN2
      clear hN1
      go_wp2_with fail
      refine hN2.mono ?_
      rintro e w7 ⟨rfl, b7⟩
      have hR7 := hR6.below b7 (Nat.le_refl _)
      have hB7 := hB6.trans (b7.mono hB6.size)
      have hN3 := hN'.out A (A + r2 + r3 : Nat) w7 hR7
      rw [q5, q6, s2, show A + r2 + r3 - A = r2 + r3 by omega, hj] at hN3
      clear hN2
      have hb8 : Hid (∀ w8, Below w7.heap.size w7 w8 → 0 < r2 → 0 < r3 → ∃ g o, ad = some ⟨g, o, none⟩ ∧ w8.cell? ⟨g, o + (A + r2) * 6 + 5, none⟩ = some (.int .i64 ((mss a).getD (A + r2) ms0).q)) := fun w8 b8 h1 h2 => by
        obtain ⟨g, o, h, o2, e1, _, hg, _, hc, _⟩ := hcl.out (A + r2) (by omega)
        refine ⟨g, o, e1, ?_⟩
        rw [getD_is (by rw [mss_len]; omega), mss_get]
        have bb := hb.trans ((b6.mono hb.size).trans (b7.mono (Nat.le_trans hb.size b6.size)) |>.trans (b8.mono (Nat.le_trans (Nat.le_trans hb.size b6.size) b7.size)))
        exact (bb.cell hg).trans (hc 5 _ rfl)
      have hqq : Hid (0 < r2 → 0 < r3 → -64 ≤ ((mss a).getD (A + r2) ms0).q ∧ ((mss a).getD (A + r2) ms0).q ≤ 0) := fun h1 h2 => by
        rw [getD_is (by rw [mss_len]; omega), mss_get]
        exact (hG.mass (by omega)).2
      generalize runN (mss a) A r2 = V1 at *
      generalize runN (mss a) (A + r2) r3 = V2 at *
      generalize ((mss a).getD (A + r2) ms0).q = qq at *
      clear q1 q2 q3 q4 q5 q6 hN' hNV hbig' hj hcl hR6 hR5 hR7 s1 s2
      by_cases hc : 0 < r2 ∧ 0 < r3
      · rw [if_pos hc] at hN3
        obtain ⟨hc1, hc2⟩ := hc
        obtain ⟨m2, m3⟩ := hqq.out hc1 hc2
        obtain ⟨hb10, hb11⟩ := hb1
        obtain ⟨hb20, hb21⟩ := hb2
        have hAB : (A : Int) < (A : Int) + r2 := by omega
        have hBC : (A : Int) + r2 < (A : Int) + r2 + r3 := by omega
        have hBk : (A : Int) + r2 < k := by omega
        go_wp2_with fail
        refine hN3.mono ?_
        rintro e w8 ⟨rfl, b8⟩
        have hB8 := hB7.trans (b8.mono hB7.size)
        obtain ⟨g, o, rfl, c5⟩ := hb8.out w8 b8 hc1 hc2
        clear hN3 hb8 hqq
        have hsum : ((V1 + qq + V2 : Int) == V1 + V2 + qq) = true := beq_iff_eq.2 (by omega)
        go_wp2_with fail
        go_ret
        exact ⟨rfl, hB8⟩
      · rw [if_neg hc, Int.add_zero] at hN3
        obtain ⟨hb10, hb11⟩ := hb1
        obtain ⟨hb20, hb21⟩ := hb2
        clear hqq hb8
        by_cases hc1 : 0 < r2
        · have hAB : (A : Int) < (A : Int) + r2 := by omega
          have hBC : ¬ (A : Int) + r2 < (A : Int) + r2 + r3 := by omega
          go_wp2_with fail
          refine hN3.mono ?_
          rintro e w8 ⟨rfl, b8⟩
          have hB8 := hB7.trans (b8.mono hB7.size)
          clear hN3
          go_wp2_with fail
          go_ret
          exact ⟨rfl, hB8⟩
        · have hAB : ¬ (A : Int) < (A : Int) + r2 := by omega
          go_wp2_with fail
          refine hN3.mono ?_
          rintro e w8 ⟨rfl, b8⟩
          have hB8 := hB7.trans (b8.mono hB7.size)
          clear hN3
          go_wp2_with fail
          go_ret
          exact ⟨rfl, hB8⟩
theorem joins_any (a : Pa) (x y z : Int) (w : World) (hA : PaAt w a) : Calls Try.prog 7 #[paV a, .int .i64 x, .int .i64 y, .int .i64 z] w fun e w' => e = .returned (.bool true) ∧ Below w.heap.size w w' := by
  by_cases h : chkI a = 0
  · exact joins_ok a x y z w hA h
  · exact joins_no a x y z w hA h
end Go.Proofs.Ytidmmllbobimeaa
