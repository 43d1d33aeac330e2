/-
  What is proved here: widths fit, and keep their bounds: the mathematics.
-/
import Derived.Test.YtkhnfmdhdfpdhaaGrP
namespace Go.Proofs.Ytkhnfmdhdfpdhaa
open Go.RowKit Go.Shelf

/-- The sum of the first numbers. -/
def smI (l : List Int) (k : Nat) : Int := tot (fun i => l.getD i 0) k
theorem smI_succ (l : List Int) (k : Nat) : smI l (k + 1) = smI l k + l.getD k 0 := rfl
theorem getD_map {f : Nat → Int} {n k : Nat} (h : k < n) : ((List.range n).map f).getD k 0 = f k := by
  rw [List.getD_eq_getElem?_getD, List.getElem?_eq_getElem (by simpa using h)]
  simp
theorem smI_map (f : Nat → Int) (n : Nat) : ∀ k, k ≤ n → smI ((List.range n).map f) k = tot f k
  | 0, _ => rfl
  | k + 1, h => by
    rw [smI_succ, smI_map f n k (by omega), getD_map (by omega)]
    rfl
theorem tot_ext {f g : Nat → Int} : ∀ k, (∀ i, i < k → f i = g i) → tot f k = tot g k
  | 0, _ => rfl
  | k + 1, h => by
    show tot f k + f k = tot g k + g k
    rw [tot_ext k (fun i hi => h i (by omega)), h k (by omega)]
theorem sAt_cols {n : Nat} {l : List ByteArray} {k : Nat} (h : k < n) : sAt (cols n l) k = (colI n l k).s := by
  rw [sAt_get (by rw [cols_len]; exact h), cols_get]
theorem mAt_cols {n : Nat} {l : List ByteArray} {k : Nat} (h : k < n) : mAt (cols n l) k = (colI n l k).m := by
  rw [mAt_get (by rw [cols_len]; exact h), cols_get]
theorem sm_leS (n : Nat) (l : List ByteArray) (k : Nat) (h : k ≤ n) : smI (leS n l n) k = tot (sAt (cols n l)) k := by
  unfold leS
  rw [smI_map _ _ _ h]
  exact tot_ext k (fun i hi => (sAt_cols (by omega)).symm)
theorem sm_leM (n : Nat) (l : List ByteArray) (k : Nat) (h : k ≤ n) : smI (leM n l n) k = tot (mAt (cols n l)) k := by
  unfold leM
  rw [smI_map _ _ _ h]
  exact tot_ext k (fun i hi => (mAt_cols (by omega)).symm)
theorem gv_mono {r p t d : Int} (hr : 0 ≤ r) (hd : 0 ≤ d) : gv r p t ≤ gv r p (t + d) := by
  unfold gv
  refine Int.ediv_le_ediv (by omega) ?_
  exact Int.mul_le_mul_of_nonneg_left (by omega) hr
theorem gv_step {r p t d : Int} (hd : 0 ≤ d) (hrp : r ≤ max p 1) : gv r p (t + d) ≤ gv r p t + d := by
  unfold gv
  have hm : 0 < max p 1 := by omega
  generalize max p 1 = m at *
  have h1 : r * (t + d) ≤ r * t + d * m := by
    rw [Int.mul_add]
    have : r * d ≤ m * d := Int.mul_le_mul_of_nonneg_right hrp hd
    rw [Int.mul_comm m d] at this
    omega
  have h2 := Int.ediv_le_ediv hm h1
  rw [Int.add_mul_ediv_right _ _ (by omega)] at h2
  exact h2
theorem tot_tele (g : Nat → Int) : ∀ k, tot (fun i => g (i + 1) - g i) k = g k - g 0
  | 0 => by show (0 : Int) = _; omega
  | k + 1 => by
    show tot (fun i => g (i + 1) - g i) k + (g (k + 1) - g k) = _
    rw [tot_tele g k]; omega
theorem tot_add (f g : Nat → Int) : ∀ k, tot (fun i => f i + g i) k = tot f k + tot g k
  | 0 => rfl
  | k + 1 => by
    show tot (fun i => f i + g i) k + (f k + g k) = tot f k + f k + (tot g k + g k)
    rw [tot_add f g k]; omega
/-- What is known of the widths for a room. -/
structure Fit (n : Nat) (L A B : List Int) (q S : Int) : Prop where
  hl : L.length = n
  ha : A.length = n
  hb : B.length = n
  le : smI L n ≤ q
  eq : q ≤ smI B n → smI L n = q
  sa : smI A n = S
  lo : ∀ k, k < n → 0 ≤ L.getD k 0 ∧ L.getD k 0 ≤ 4095
  ins : ¬ q < S → ∀ k, k < n → A.getD k 0 ≤ L.getD k 0 ∧ L.getD k 0 ≤ B.getD k 0
  ra : ∀ k, k < n → 0 ≤ A.getD k 0 ∧ A.getD k 0 ≤ 819004
  rb : ∀ k, k < n → 0 ≤ B.getD k 0 ∧ B.getD k 0 ≤ 819004
theorem smI_rng {l : List Int} {n : Nat} {b : Int} (h : ∀ k, k < n → 0 ≤ l.getD k 0 ∧ l.getD k 0 ≤ b) : ∀ k, k ≤ n → 0 ≤ smI l k ∧ smI l k ≤ b * (k : Int)
  | 0, _ => by show (0 : Int) ≤ 0 ∧ (0 : Int) ≤ b * 0; omega
  | k + 1, hk => by
    have ih := smI_rng h k (by omega)
    have := h k (by omega)
    rw [smI_succ, show b * ((k + 1 : Nat) : Int) = b * (k : Int) + b by rw [Int.natCast_add, Int.mul_add]; simp]
    omega
theorem smI_ge {l : List Int} {n : Nat} {b : Int} (h : ∀ k, k < n → 0 ≤ l.getD k 0 ∧ l.getD k 0 ≤ b) : ∀ k j, j < k → k ≤ n → l.getD j 0 ≤ smI l k
  | 0, j, hj, _ => by omega
  | k + 1, j, hj, hk => by
    have h0 := (smI_rng h k (by omega)).1
    have := h k (by omega)
    rw [smI_succ]
    by_cases e : j = k
    · rw [e]; omega
    · have := smI_ge h k j (by omega) (by omega); omega
theorem ev_sum (n : Nat) (q : Int) (hn : 1 ≤ n) : tot (evF n q) n = q := by
  have h : tot (evF n q) n = gv q n n - gv q n (0 : Nat) := tot_tele (fun i => gv q n ((i : Nat) : Int)) n
  rw [h, show ((0 : Nat) : Int) = 0 from rfl, gv_zero]
  unfold gv
  rw [show max (n : Int) 1 = n by omega, Int.mul_ediv_cancel _ (by omega)]
  omega
theorem gro_sum (L : List Co) (hF : Few L) (q : Int) (hq : tot (sAt L) L.length ≤ q) : tot (groF L q) L.length = min q (tot (mAt L) L.length) := by
  have h : tot (groF L q) L.length = tot (sAt L) L.length + (gv (groR L q) (gt L L.length) (gt L L.length) - gv (groR L q) (gt L L.length) (gt L 0)) := by
    rw [← tot_tele (fun i => gv (groR L q) (gt L L.length) (gt L i)), ← tot_add]; rfl
  have ht := hF.tot L.length (Nat.le_refl _)
  have hg := gt_rng hF (Nat.le_refl L.length)
  have hR : groR L q = min q (tot (mAt L) L.length) - tot (sAt L) L.length := rfl
  have hP : gt L L.length = tot (mAt L) L.length - tot (sAt L) L.length := rfl
  rw [h, show gt L 0 = 0 from rfl, gv_zero]
  by_cases h0 : gt L L.length = 0
  · rw [h0, gv_zero]; omega
  · have e : gv (groR L q) (gt L L.length) (gt L L.length) = groR L q := by
      unfold gv
      rw [show max (gt L L.length) 1 = gt L L.length by omega, Int.mul_ediv_cancel _ h0]
    rw [e]; omega
theorem fit_of {n : Nat} {l : List ByteArray} (hT : Tab n l) {q : Int} (hq : 0 ≤ q ∧ q ≤ 4095) : Fit n (wdL n l q) (leS n l n) (leM n l n) q (sumS n l) := by
  have hF := cols_few hT
  have hcn : (cols n l).length = n := cols_len n l
  obtain ⟨n1, n2⟩ := hT.hc
  have hsa : smI (leS n l n) n = sumS n l := sm_leS n l n (Nat.le_refl _)
  have hsb : smI (leM n l n) n = sumM n l := sm_leM n l n (Nat.le_refl _)
  have gA : ∀ k, k < n → (leS n l n).getD k 0 = (colI n l k).s := fun k hk => getD_map hk
  have gB : ∀ k, k < n → (leM n l n).getD k 0 = (colI n l k).m := fun k hk => getD_map hk
  have hrng := hT.ha.col n
  have ra : ∀ k, k < n → 0 ≤ (leS n l n).getD k 0 ∧ (leS n l n).getD k 0 ≤ 819004 := fun k hk => by rw [gA k hk]; have := hrng k; omega
  have rb : ∀ k, k < n → 0 ≤ (leM n l n).getD k 0 ∧ (leM n l n).getD k 0 ≤ 819004 := fun k hk => by rw [gB k hk]; have := hrng k; omega
  have hts := hF.tot n (by omega)
  have hSM : sumS n l ≤ sumM n l := hts.2.1
  by_cases ht : q < sumS n l
  · have hL : wdL n l q = evL n q := if_pos ht
    have gL : ∀ k, k < n → (evL n q).getD k 0 = evF n q k := fun k hk => getD_map hk
    have hs : smI (evL n q) n = q := by unfold evL; rw [smI_map _ _ _ (Nat.le_refl _), ev_sum n q n1]
    have lo0 : ∀ k, k < n → 0 ≤ (evL n q).getD k 0 ∧ (evL n q).getD k 0 ≤ 4095 * 9 := fun k hk => by
      rw [gL k hk]
      unfold evF
      have h1 := gv_mono (r := q) (p := n) (t := (k : Int)) (d := 1) hq.1 (by omega)
      have h2 := gv_rng (r := q) (p := n) (t := ((k + 1 : Nat) : Int)) hq.1 (by omega)
      have h3 := gv_rng (r := q) (p := n) (t := (k : Int)) hq.1 (by omega)
      have h4 : q * ((k + 1 : Nat) : Int) ≤ 4095 * 9 := Int.mul_le_mul hq.2 (by omega) (by omega) (by omega)
      rw [show ((k + 1 : Nat) : Int) = (k : Int) + 1 by omega] at *
      omega
    refine ⟨by rw [hL]; simp [evL], by simp [leS], by simp [leM], by rw [hL, hs]; omega, fun _ => by rw [hL, hs], hsa, fun k hk => ?_, fun h => absurd ht h, ra, rb⟩
    rw [hL]
    have := smI_ge lo0 n k hk (Nat.le_refl _)
    have := lo0 k hk
    omega
  · have hL : wdL n l q = groL (cols n l) q := if_neg ht
    have e : groL (cols n l) q = (List.range n).map (groF (cols n l) q) := by unfold groL; rw [hcn]
    have gL : ∀ k, k < n → (groL (cols n l) q).getD k 0 = groF (cols n l) q k := fun k hk => by rw [e]; exact getD_map hk
    have hqS : tot (sAt (cols n l)) (cols n l).length ≤ q := by rw [hcn]; show sumS n l ≤ q; omega
    have hs : smI (groL (cols n l) q) n = min q (sumM n l) := by
      rw [e, smI_map _ _ _ (Nat.le_refl _)]
      have := gro_sum (cols n l) hF q hqS
      rw [hcn] at this
      exact this
    have hR := groR_rng hF ⟨hqS, hq.2⟩
    have hins : ∀ k, k < n → (colI n l k).s ≤ groF (cols n l) q k ∧ groF (cols n l) q k ≤ (colI n l k).m := fun k hk => by
      unfold groF
      rw [sAt_cols hk, gt_succ (by rw [hcn]; exact hk)]
      have hc := hrng k
      rw [cols_get]
      have h1 := gv_mono (r := groR (cols n l) q) (p := gt (cols n l) (cols n l).length) (t := gt (cols n l) k) (d := (colI n l k).m - (colI n l k).s) hR.1 (by omega)
      have h2 := gv_step (r := groR (cols n l) q) (p := gt (cols n l) (cols n l).length) (t := gt (cols n l) k) (d := (colI n l k).m - (colI n l k).s) (by omega) (by
        have hRe : groR (cols n l) q = min q (tot (mAt (cols n l)) (cols n l).length) - tot (sAt (cols n l)) (cols n l).length := rfl
        have hPe : gt (cols n l) (cols n l).length = tot (mAt (cols n l)) (cols n l).length - tot (sAt (cols n l)) (cols n l).length := rfl
        omega)
      omega
    have lo0 : ∀ k, k < n → 0 ≤ (groL (cols n l) q).getD k 0 ∧ (groL (cols n l) q).getD k 0 ≤ 819004 := fun k hk => by
      rw [gL k hk]; have := hins k hk; have := hrng k; omega
    refine ⟨by rw [hL, e]; simp, by simp [leS], by simp [leM], by rw [hL, hs]; omega, fun h => by rw [hsb] at h; rw [hL, hs]; omega, hsa, fun k hk => ?_, fun _ k hk => ?_, ra, rb⟩
    · rw [hL]
      have := smI_ge lo0 n k hk (Nat.le_refl _)
      have := lo0 k hk
      omega
    · rw [hL, gA k hk, gB k hk, gL k hk]
      exact hins k hk

set_option maxRecDepth 100000 in
set_option maxHeartbeats 2000000 in
theorem gsum_any (v : Value) (L : List Int) (b : Int) (hlen : L.length ≤ 8) (hb : 0 ≤ b ∧ b ≤ 10000000) (hr : ∀ k, k < L.length → 0 ≤ L.getD k 0 ∧ L.getD k 0 ≤ b) (w : World) (hI : InAt w v L) :
    Calls Try.prog 25 #[v] w fun e w' => e = .returned (.int .i64 (smI L L.length)) ∧ w' = w := by
  obtain ⟨a1, cap1, rfl, k1⟩ := hI.ex
  clear hI
  go_enter Try.func25, Try.ntmps25
  go_wp2_with fail
  go_loopw [3, 4] (fun s i wr => ∃ k : Nat, k ≤ L.length ∧ s = .int .i64 (smI L k) ∧ i = .int .i64 k ∧ wr = w) (fun _ i _ => L.length - (RowKit.intOf i).toNat)
  case atStart => exact ⟨0, by omega, rfl, rfl, rfl⟩
  case round =>
    obtain ⟨k, hk, rfl, rfl, rfl⟩ := hrel
    have hs := smI_rng hr k hk
    have hs2 : b * (k : Int) ≤ 10000000 * 8 := Int.mul_le_mul hb.2 (by omega) (by omega) (by omega)
    by_cases hlt : k < L.length
    · rcases k1 with k1 | ⟨b1, o1, rfl, hl1, hc1⟩
      · rw [k1] at hlt; simp at hlt
      · have d1 : wr.cell? ⟨b1, o1 + k, none⟩ = some (.int .i64 L[k]) := InAt.cell hlt hc1
        have hkl : (k : Int) < L.length := by omega
        have hg : L.getD k 0 = L[k] := by rw [List.getD_eq_getElem?_getD, List.getElem?_eq_getElem hlt]; rfl
        have hx := hr k hlt
        have hn : Hid (smI L (k + 1) = smI L k + L[k]) := (by rw [smI_succ, hg] : _ = _)
        rw [hg] at hx
        clear hc1 hg
        generalize L[k] = x at *
        generalize smI L k = S at *
        go_wp2_with fail
        go_roundw
        case rel => exact ⟨k + 1, by omega, by rw [hn.out], by simp, trivial⟩
        case measure => simp [RowKit.intOf]; omega
    · obtain rfl : k = L.length := by omega
      have hkl : ¬ (L.length : Int) < L.length := by omega
      generalize hS : smI L L.length = S at *
      have hS' : Hid (smI L L.length = S) := hS
      clear hS
      go_wp2_with fail
      go_ret
      exact ⟨by rw [hS'.out]; rfl, rfl⟩
end Go.Proofs.Ytkhnfmdhdfpdhaa
