/-
  What is proved here: widths fit, and keep their bounds: the mathematics.
  What is proved here: the document's Check of a table; its sum of numbers.
  What is proved here: the document's least and greatest widths of columns.
  What is proved here: the document's widths for a room.
-/
import Derived.Test.YtkhnfmdhdfpdhaaE19
import Derived.Test.YtkhnfmdhdfpdhaaE30
import Derived.Test.YtkhnfmdhdfpdhaaE18
namespace Go.Proofs.Ytkhnfmdhdfpdhaa
open Go.RowKit Go.Shelf

/-- The sum of the first numbers. -/
def smI (l : List Int) (k : Nat) : Int := tot (fun i => l.getD i 0) k
theorem smI_succ (l : List Int) (k : Nat) : smI l (k + 1) = smI l k + l.getD k 0 := rfl
theorem getD_map {f : Nat → Int} {n k : Nat} (h : k < n) : ((List.range n).map f).getD k 0 = f k := by
  rw [List.getD_eq_getElem?_getD, List.getElem?_eq_getElem (by simpa using h)]
  simp
theorem smI_map (f : Nat → Int) (n : Nat) : ∀ k, k ≤ n → smI ((List.range n).map f) k = tot f k
  | 0, _ => rfl
  | k + 1, h => by
    rw [smI_succ, smI_map f n k (by omega), getD_map (by omega)]
    rfl
theorem tot_ext {f g : Nat → Int} : ∀ k, (∀ i, i < k → f i = g i) → tot f k = tot g k
  | 0, _ => rfl
  | k + 1, h => by
    show tot f k + f k = tot g k + g k
    rw [tot_ext k (fun i hi => h i (by omega)), h k (by omega)]
theorem sAt_cols {n : Nat} {l : List ByteArray} {k : Nat} (h : k < n) : sAt (cols n l) k = (colI n l k).s := by
  rw [sAt_get (by rw [cols_len]; exact h), cols_get]
theorem mAt_cols {n : Nat} {l : List ByteArray} {k : Nat} (h : k < n) : mAt (cols n l) k = (colI n l k).m := by
  rw [mAt_get (by rw [cols_len]; exact h), cols_get]
theorem sm_leS (n : Nat) (l : List ByteArray) (k : Nat) (h : k ≤ n) : smI (leS n l n) k = tot (sAt (cols n l)) k := by
  unfold leS
  rw [smI_map _ _ _ h]
  exact tot_ext k (fun i hi => (sAt_cols (by omega)).symm)
theorem sm_leM (n : Nat) (l : List ByteArray) (k : Nat) (h : k ≤ n) : smI (leM n l n) k = tot (mAt (cols n l)) k := by
  unfold leM
  rw [smI_map _ _ _ h]
  exact tot_ext k (fun i hi => (mAt_cols (by omega)).symm)
theorem gv_mono {r p t d : Int} (hr : 0 ≤ r) (hd : 0 ≤ d) : gv r p t ≤ gv r p (t + d) := by
  unfold gv
  refine Int.ediv_le_ediv (by omega) ?_
  exact Int.mul_le_mul_of_nonneg_left (by omega) hr
theorem gv_step {r p t d : Int} (hd : 0 ≤ d) (hrp : r ≤ max p 1) : gv r p (t + d) ≤ gv r p t + d := by
  unfold gv
  have hm : 0 < max p 1 := by omega
  generalize max p 1 = m at *
  have h1 : r * (t + d) ≤ r * t + d * m := by
    rw [Int.mul_add]
    have : r * d ≤ m * d := Int.mul_le_mul_of_nonneg_right hrp hd
    rw [Int.mul_comm m d] at this
    omega
  have h2 := Int.ediv_le_ediv hm h1
  rw [Int.add_mul_ediv_right _ _ (by omega)] at h2
  exact h2
theorem tot_tele (g : Nat → Int) : ∀ k, tot (fun i => g (i + 1) - g i) k = g k - g 0
  | 0 => by show (0 : Int) = _; omega
  | k + 1 => by
    show tot (fun i => g (i + 1) - g i) k + (g (k + 1) - g k) = _
    rw [tot_tele g k]; omega
theorem tot_add (f g : Nat → Int) : ∀ k, tot (fun i => f i + g i) k = tot f k + tot g k
  | 0 => rfl
  | k + 1 => by
    show tot (fun i => f i + g i) k + (f k + g k) = tot f k + f k + (tot g k + g k)
    rw [tot_add f g k]; omega
/-- What is known of the widths for a room. -/
structure Fit (n : Nat) (L A B : List Int) (q S : Int) : Prop where
  hl : L.length = n
  ha : A.length = n
  hb : B.length = n
  le : smI L n ≤ q
  eq : q ≤ smI B n → smI L n = q
  sa : smI A n = S
  lo : ∀ k, k < n → 0 ≤ L.getD k 0 ∧ L.getD k 0 ≤ 4095
  ins : ¬ q < S → ∀ k, k < n → A.getD k 0 ≤ L.getD k 0 ∧ L.getD k 0 ≤ B.getD k 0
  ra : ∀ k, k < n → 0 ≤ A.getD k 0 ∧ A.getD k 0 ≤ 819004
  rb : ∀ k, k < n → 0 ≤ B.getD k 0 ∧ B.getD k 0 ≤ 819004
theorem smI_rng {l : List Int} {n : Nat} {b : Int} (h : ∀ k, k < n → 0 ≤ l.getD k 0 ∧ l.getD k 0 ≤ b) : ∀ k, k ≤ n → 0 ≤ smI l k ∧ smI l k ≤ b * (k : Int)
  | 0, _ => by show (0 : Int) ≤ 0 ∧ (0 : Int) ≤ b * 0; omega
  | k + 1, hk => by
    have ih := smI_rng h k (by omega)
    have := h k (by omega)
    rw [smI_succ, show b * ((k + 1 : Nat) : Int) = b * (k : Int) + b by rw [Int.natCast_add, Int.mul_add]; simp]
    omega
theorem smI_ge {l : List Int} {n : Nat} {b : Int} (h : ∀ k, k < n → 0 ≤ l.getD k 0 ∧ l.getD k 0 ≤ b) : ∀ k j, j < k → k ≤ n → l.getD j 0 ≤ smI l k
  | 0, j, hj, _ => by omega
  | k + 1, j, hj, hk => by
    have h0 := (smI_rng h k (by omega)).1
    have := h k (by omega)
    rw [smI_succ]
    by_cases e : j = k
    · rw [e]; omega
    · have := smI_ge h k j (by omega) (by omega); omega
theorem ev_sum (n : Nat) (q : Int) (hn : 1 ≤ n) : tot (evF n q) n = q := by
  have h : tot (evF n q) n = gv q n n - gv q n (0 : Nat) := tot_tele (fun i => gv q n ((i : Nat) : Int)) n
  rw [h, show ((0 : Nat) : Int) = 0 from rfl, gv_zero]
  unfold gv
  rw [show max (n : Int) 1 = n by omega, Int.mul_ediv_cancel _ (by omega)]
  omega
theorem gro_sum (L : List Co) (hF : Few L) (q : Int) (hq : tot (sAt L) L.length ≤ q) : tot (groF L q) L.length = min q (tot (mAt L) L.length) := by
  have h : tot (groF L q) L.length = tot (sAt L) L.length + (gv (groR L q) (gt L L.length) (gt L L.length) - gv (groR L q) (gt L L.length) (gt L 0)) := by
    rw [← tot_tele (fun i => gv (groR L q) (gt L L.length) (gt L i)), ← tot_add]; rfl
  have ht := hF.tot L.length (Nat.le_refl _)
  have hg := gt_rng hF (Nat.le_refl L.length)
  have hR : groR L q = min q (tot (mAt L) L.length) - tot (sAt L) L.length := rfl
  have hP : gt L L.length = tot (mAt L) L.length - tot (sAt L) L.length := rfl
  rw [h, show gt L 0 = 0 from rfl, gv_zero]
  by_cases h0 : gt L L.length = 0
  · rw [h0, gv_zero]; omega
  · have e : gv (groR L q) (gt L L.length) (gt L L.length) = groR L q := by
      unfold gv
      rw [show max (gt L L.length) 1 = gt L L.length by omega, Int.mul_ediv_cancel _ h0]
    rw [e]; omega
theorem fit_of {n : Nat} {l : List ByteArray} (hT : Tab n l) {q : Int} (hq : 0 ≤ q ∧ q ≤ 4095) : Fit n (wdL n l q) (leS n l n) (leM n l n) q (sumS n l) := by
  have hF := cols_few hT
  have hcn : (cols n l).length = n := cols_len n l
  obtain ⟨n1, n2⟩ := hT.hc
  have hsa : smI (leS n l n) n = sumS n l := sm_leS n l n (Nat.le_refl _)
  have hsb : smI (leM n l n) n = sumM n l := sm_leM n l n (Nat.le_refl _)
  have gA : ∀ k, k < n → (leS n l n).getD k 0 = (colI n l k).s := fun k hk => getD_map hk
  have gB : ∀ k, k < n → (leM n l n).getD k 0 = (colI n l k).m := fun k hk => getD_map hk
  have hrng := hT.ha.col n
  have ra : ∀ k, k < n → 0 ≤ (leS n l n).getD k 0 ∧ (leS n l n).getD k 0 ≤ 819004 := fun k hk => by rw [gA k hk]; have := hrng k; omega
  have rb : ∀ k, k < n → 0 ≤ (leM n l n).getD k 0 ∧ (leM n l n).getD k 0 ≤ 819004 := fun k hk => by rw [gB k hk]; have := hrng k; omega
  have hts := hF.tot n (by omega)
  have hSM : sumS n l ≤ sumM n l := hts.2.1
  by_cases ht : q < sumS n l
  · have hL : wdL n l q = evL n q := if_pos ht
    have gL : ∀ k, k < n → (evL n q).getD k 0 = evF n q k := fun k hk => getD_map hk
    have hs : smI (evL n q) n = q := by unfold evL; rw [smI_map _ _ _ (Nat.le_refl _), ev_sum n q n1]
    have lo0 : ∀ k, k < n → 0 ≤ (evL n q).getD k 0 ∧ (evL n q).getD k 0 ≤ 4095 * 9 := fun k hk => by
      rw [gL k hk]
      unfold evF
      have h1 := gv_mono (r := q) (p := n) (t := (k : Int)) (d := 1) hq.1 (by omega)
      have h2 := gv_rng (r := q) (p := n) (t := ((k + 1 : Nat) : Int)) hq.1 (by omega)
      have h3 := gv_rng (r := q) (p := n) (t := (k : Int)) hq.1 (by omega)
      have h4 : q * ((k + 1 : Nat) : Int) ≤ 4095 * 9 := Int.mul_le_mul hq.2 (by omega) (by omega) (by omega)
      rw [show ((k + 1 : Nat) : Int) = (k : Int) + 1 by omega] at *
      omega
    refine ⟨by rw [hL]; simp [evL], by simp [leS], by simp [leM], by rw [hL, hs]; omega, fun _ => by rw [hL, hs], hsa, fun k hk => ?_, fun h => absurd ht h, ra, rb⟩
    rw [hL]
    have := smI_ge lo0 n k hk (Nat.le_refl _)
    have := lo0 k hk
    omega
  · have hL : wdL n l q = groL (cols n l) q := if_neg ht
    have e : groL (cols n l) q = (List.range n).map (groF (cols n l) q) := by unfold groL; rw [hcn]
    have gL : ∀ k, k < n → (groL (cols n l) q).getD k 0 = groF (cols n l) q k := fun k hk => by rw [e]; exact getD_map hk
    have hqS : tot (sAt (cols n l)) (cols n l).length ≤ q := by rw [hcn]; show sumS n l ≤ q; omega
    have hs : smI (groL (cols n l) q) n = min q (sumM n l) := by
      rw [e, smI_map _ _ _ (Nat.le_refl _)]
      have := gro_sum (cols n l) hF q hqS
      rw [hcn] at this
      exact this
    have hR := groR_rng hF ⟨hqS, hq.2⟩
    have hins : ∀ k, k < n → (colI n l k).s ≤ groF (cols n l) q k ∧ groF (cols n l) q k ≤ (colI n l k).m := fun k hk => by
      unfold groF
      rw [sAt_cols hk, gt_succ (by rw [hcn]; exact hk)]
      have hc := hrng k
      rw [cols_get]
      have h1 := gv_mono (r := groR (cols n l) q) (p := gt (cols n l) (cols n l).length) (t := gt (cols n l) k) (d := (colI n l k).m - (colI n l k).s) hR.1 (by omega)
      have h2 := gv_step (r := groR (cols n l) q) (p := gt (cols n l) (cols n l).length) (t := gt (cols n l) k) (d := (colI n l k).m - (colI n l k).s) (by omega) (by
        have hRe : groR (cols n l) q = min q (tot (mAt (cols n l)) (cols n l).length) - tot (sAt (cols n l)) (cols n l).length := rfl
        have hPe : gt (cols n l) (cols n l).length = tot (mAt (cols n l)) (cols n l).length - tot (sAt (cols n l)) (cols n l).length := rfl
        omega)
      omega
    have lo0 : ∀ k, k < n → 0 ≤ (groL (cols n l) q).getD k 0 ∧ (groL (cols n l) q).getD k 0 ≤ 819004 := fun k hk => by
      rw [gL k hk]; have := hins k hk; have := hrng k; omega
    refine ⟨by rw [hL, e]; simp, by simp [leS], by simp [leM], by rw [hL, hs]; omega, fun h => by rw [hsb] at h; rw [hL, hs]; omega, hsa, fun k hk => ?_, fun _ k hk => ?_, ra, rb⟩
    · rw [hL]
      have := smI_ge lo0 n k hk (Nat.le_refl _)
      have := lo0 k hk
      omega
    · rw [hL, gA k hk, gB k hk, gL k hk]
      exact hins k hk

end Go.Proofs.Ytkhnfmdhdfpdhaa

namespace Go.Proofs.Ytkhnfmdhdfpdhaa
open Go.RowKit Go.Shelf

set_option maxRecDepth 100000 in
set_option maxHeartbeats 4000000 in
theorem rcheck_any16 (c : Int) (v : Value) (l : List ByteArray) (hl : l.length ≤ 9223372036854775807) (hsz : ∀ t ∈ l, t.size ≤ 9223372036854775807) (w : World) (hS : StrsAt w v l) :
    Calls Try.prog 15 #[.agg #[.int .i64 c, v]] w fun e w' => e = .returned (.int .i64 (chkG c l)) ∧ Below w.heap.size w w' := by
  have hB := (Below.refl w.heap.size w).alloc (Nat.le_refl _) (.cells #[.int .i64 c, v] 24)
  have hS1 := hS.below hB (Nat.le_refl _)
  have hb0 : (w.alloc (.cells #[.int .i64 c, v] 24)).heap[w.heap.size]? = some (.cells #[.int .i64 c, v] 24) := World.alloc_heap_new w _
  obtain ⟨a, cap, rfl, h2⟩ := hS1.ex
  clear hS hS1
  have c0 : (w.alloc (.cells #[.int .i64 c, .slice a l.length cap] 24)).cell? ⟨w.heap.size, 0, none⟩ = some (.int .i64 c) := by rw [Lib.cell_of_heap hb0]; rfl
  have c1 : (w.alloc (.cells #[.int .i64 c, .slice a l.length cap] 24)).cell? ⟨w.heap.size, 1, none⟩ = some (.slice a l.length cap) := by rw [Lib.cell_of_heap hb0]; rfl
  have hN : Hid (¬ ((1 ≤ c ∧ c ≤ 8) ∧ (1 ≤ l.length ∧ l.length ≤ 64) ∧ (l.length : Int) % c = 0) → chkG c l = 2) := fun h => if_neg (fun hh => h ⟨hh.1, hh.2.1, hh.2.2.1⟩)
  have hN2 : Hid (∀ k (hk : k < l.length), cellB l[k] = false → chkG c l = 2) := fun k hk h => if_neg (fun hh => by have := List.all_eq_true.1 hh.2.2.2 _ (List.getElem_mem hk); rw [h] at this; cases this)
  have hY : Hid (((1 ≤ c ∧ c ≤ 8) ∧ (1 ≤ l.length ∧ l.length ≤ 64) ∧ (l.length : Int) % c = 0) → (∀ k (hk : k < l.length), cellB l[k] = true) → chkG c l = 0) := fun h ha => if_pos ⟨h.1, h.2.1, h.2.2, List.all_eq_true.2 fun b hb => by
    obtain ⟨i, hi, rfl⟩ := List.getElem_of_mem hb
    exact ha i hi⟩
  generalize chkG c l = r at *
  generalize hw1 : w.alloc (.cells #[.int .i64 c, .slice a l.length cap] 24) = w1 at *
  by_cases h1 : c < 1
  · have hr : 2 = r := (hN.out (fun h => by omega)).symm
    subst hr
    clear hN hN2 hY h2 hb0
    go_enter Try.func15, Try.ntmps15
    go_wp2_with fail
    go_ret
    exact ⟨rfl, hB⟩
  by_cases h8 : 8 < c
  · have hr : 2 = r := (hN.out (fun h => by omega)).symm
    subst hr
    clear hN hN2 hY h2 hb0
    go_enter Try.func15, Try.ntmps15
    go_wp2_with fail
    go_ret
    exact ⟨rfl, hB⟩
  by_cases hz : l.length = 0
  · have hr : 2 = r := (hN.out (fun h => by omega)).symm
    subst hr
    have hz' : (l.length : Int) < 1 := by omega
    have hcz : ¬ c = 0 := by omega
    clear hN hN2 hY h2 hb0 hz
    go_enter Try.func15, Try.ntmps15
    go_wp2_with fail
    go_ret
    exact ⟨rfl, hB⟩
  have hz' : ¬ (l.length : Int) < 1 := by omega
  have hcz : ¬ c = 0 := by omega
  by_cases h64 : 64 < l.length
  · have hr : 2 = r := (hN.out (fun h => by omega)).symm
    subst hr
    have h64' : (64 : Int) < l.length := by omega
    clear hN hN2 hY h2 hb0 hz
    go_enter Try.func15, Try.ntmps15
    go_wp2_with fail
    go_ret
    exact ⟨rfl, hB⟩
  have h64' : ¬ (64 : Int) < l.length := by omega
  by_cases hm : (l.length : Int) % c = 0
  · have hY2 : Hid ((∀ k (hk : k < l.length), cellB l[k] = true) → r = 0) := fun ha => hY.out ⟨by omega, by omega, hm⟩ ha
    have hm' : ((l.length : Int) % c != 0) = false := by simp [hm]
    have hsz' : Hid (∀ t ∈ l, t.size ≤ 9223372036854775807) := hsz
    have hw1' : Hid (w.alloc (.cells #[.int .i64 c, .slice a l.length cap] 24) = w1) := hw1
    clear hN hY hb0 hz hm hsz hw1
    go_enter Try.func15, Try.ntmps15
    go_wp2_with fail
    first | rw [hw1'.out] | skip
    go_loopw [4] (fun i wr => ∃ k : Nat, k ≤ l.length ∧ i = .int .i64 k ∧ wr = w1 ∧ Hid (∀ j (hj : j < l.length), j < k → cellB l[j] = true)) (fun i _ => l.length - (intOf i).toNat)
    case atStart => exact ⟨0, by omega, rfl, rfl, fun j _ hj => by omega⟩
    case round =>
      obtain ⟨k, hk, rfl, rfl, hall⟩ := hrel
      by_cases hlt : k < l.length
      · rcases h2 with h2 | ⟨b, o, rfl, hbl, hc⟩
        · rw [h2] at hlt; simp at hlt
        have hlt' : (k : Int) < l.length := by omega
        have d0 : wr.cell? ⟨b, o + k, none⟩ = some (.string l[k]) := hc k hlt
        have hN3 : Hid (cellB l[k] = false → r = 2) := hN2.out k hlt
        have hxs := hsz'.out _ (List.getElem_mem hlt)
        have hall2 : Hid (cellB l[k] = true → ∀ j (hj : j < l.length), j < k + 1 → cellB l[j] = true) := fun h j hj hjk => by
          by_cases e : j = k
          · subst e; exact h
          · exact hall.out j hj (by omega)
        clear hc hN2 hall
        generalize hx : l[k] = x at *
        have hx' : Hid (l[k] = x) := hx
        clear hx
        by_cases h200 : (200 : Int) < x.size
        · have hr : 2 = r := (hN3.out (decide_eq_false (fun h => by have := h.1; omega))).symm
          subst hr
          clear hN3 hall2
          go_wp2_with fail
          go_ret
          exact ⟨rfl, hB⟩
        · have hN4 : Hid (∀ m, m < x.size → ¬ (32 ≤ bt x m ∧ bt x m ≤ 126) → r = 2) := fun m hm h => hN3.out (cell_no hm h)
          have hY4 : Hid ((∀ m, m < x.size → 32 ≤ bt x m ∧ bt x m ≤ 126) → ∀ j (hj : j < l.length), j < k + 1 → cellB l[j] = true) := fun h => hall2.out (decide_eq_true ⟨by omega, h⟩)
          clear hN3 hall2
          go_wp2_with fail
          go_loopw [6] (fun i wr' => ∃ m : Nat, m ≤ x.size ∧ i = .int .i64 m ∧ wr' = wr ∧ Hid (∀ j, j < m → 32 ≤ bt x j ∧ bt x j ≤ 126)) (fun i _ => x.size - (intOf i).toNat)
          case atStart => exact ⟨0, by omega, rfl, rfl, fun j hj => by omega⟩
          case round =>
            obtain ⟨m, hmx, rfl, rfl, hin⟩ := hrel
            by_cases hltm : m < x.size
            · have hbe : Hid (bt x m = ((x[m]'hltm).toNat : Int)) := bt_eq hltm
              have hltm' : (m : Int) < x.size := by omega
              by_cases d1 : ((x[m]'hltm).toNat : Int) < 32
              · have hr : 2 = r := (hN4.out m hltm (by rw [hbe.out]; omega)).symm
                subst hr
                clear hN4 hY4 hbe hin
                go_wp2_with fail
                go_ret
                exact ⟨rfl, hB⟩
              · by_cases d2 : 126 < ((x[m]'hltm).toNat : Int)
                · have hr : 2 = r := (hN4.out m hltm (by rw [hbe.out]; omega)).symm
                  subst hr
                  clear hN4 hY4 hbe hin
                  go_wp2_with fail
                  go_ret
                  exact ⟨rfl, hB⟩
                · have hn : Hid (∀ j, j < m + 1 → 32 ≤ bt x j ∧ bt x j ≤ 126) := fun j hj => by
                    by_cases e : j = m
                    · subst e; rw [hbe.out]; omega
                    · exact hin.out j (by omega)
                  clear hbe hin
                  go_wp2_with fail
                  go_roundw
                  case rel => exact ⟨m + 1, by omega, by simp, by first | rfl | trivial, hn⟩
                  case measure => simp [intOf]; omega
            · obtain rfl : m = x.size := by omega
              have hall3 : Hid (∀ j (hj : j < l.length), j < k + 1 → cellB l[j] = true) := hY4.out hin.out
              clear hN4 hY4 hin
              go_wp2_with fail
              go_roundw
              case rel => exact ⟨k + 1, by omega, by simp, by first | rfl | trivial, hall3⟩
              case measure => simp [intOf]; omega
      · obtain rfl : k = l.length := by omega
        have hge : ¬ (l.length : Int) < l.length := by omega
        have hr : 0 = r := (hY2.out (fun j hj => hall.out j hj hj)).symm
        subst hr
        clear hY2 hN2 h2 hall
        go_wp2_with fail
        go_ret
        exact ⟨rfl, hB⟩
  · have hr : 2 = r := (hN.out (fun h => hm h.2.2)).symm
    subst hr
    have hm' : ((l.length : Int) % c != 0) = true := by simp [hm]
    clear hN hN2 hY h2 hb0 hz
    go_enter Try.func15, Try.ntmps15
    go_wp2_with fail
    go_ret
    exact ⟨rfl, hB⟩

set_option maxRecDepth 100000 in
set_option maxHeartbeats 2000000 in
theorem rsum_any16 (v : Value) (L : List Int) (b : Int) (hlen : L.length ≤ 8) (hb : 0 ≤ b ∧ b ≤ 10000000) (hr : ∀ k, k < L.length → 0 ≤ L.getD k 0 ∧ L.getD k 0 ≤ b) (n : Nat) (hn : n ≤ L.length) (w : World) (hI : InAt w v L) :
    Calls Try.prog 33 #[v, .int .i64 n] w fun e w' => e = .returned (.int .i64 (smI L n)) ∧ w' = w := by
  obtain ⟨a1, cap1, rfl, k1⟩ := hI.ex
  clear hI
  go_enter Try.func33, Try.ntmps33
  go_wp2_with fail
  go_loopw [5, 6] (fun s i wr => ∃ k : Nat, k ≤ n ∧ s = .int .i64 (smI L k) ∧ i = .int .i64 k ∧ wr = w) (fun _ i _ => n - (RowKit.intOf i).toNat)
  case atStart => exact ⟨0, by omega, rfl, rfl, rfl⟩
  case round =>
    obtain ⟨k, hk, rfl, rfl, rfl⟩ := hrel
    have hs := smI_rng hr k (by omega)
    have hs2 : b * (k : Int) ≤ 10000000 * 8 := Int.mul_le_mul hb.2 (by omega) (by omega) (by omega)
    by_cases hlt : k < n
    · rcases k1 with k1 | ⟨b1, o1, rfl, hl1, hc1⟩
      · rw [k1] at hn; simp at hn; omega
      · have hltL : k < L.length := by omega
        have d1 : wr.cell? ⟨b1, o1 + k, none⟩ = some (.int .i64 L[k]) := InAt.cell hltL hc1
        have hkl : (k : Int) < n := by omega
        have hkL : (k : Int) < L.length := by omega
        have hg : L.getD k 0 = L[k] := by rw [List.getD_eq_getElem?_getD, List.getElem?_eq_getElem hltL]; rfl
        have hx := hr k hltL
        have hn1 : Hid (smI L (k + 1) = smI L k + L[k]) := (by rw [smI_succ, hg] : _ = _)
        rw [hg] at hx
        clear hc1 hg
        generalize L[k] = x at *
        generalize smI L k = S at *
        go_wp2_with fail
        go_roundw
        case rel => exact ⟨k + 1, by omega, by rw [hn1.out], by simp, trivial⟩
        case measure => simp [RowKit.intOf]; omega
    · obtain rfl : k = n := by omega
      have hkl : ¬ (k : Int) < k := by omega
      generalize hS : smI L k = S at *
      have hS' : Hid (smI L k = S) := hS
      clear hS
      go_wp2_with fail
      go_ret
      exact ⟨by rw [hS'.out]; rfl, rfl⟩
end Go.Proofs.Ytkhnfmdhdfpdhaa

namespace Go.Proofs.Ytkhnfmdhdfpdhaa
open Go.RowKit Go.Shelf

/-- How the document's Least and Most end. -/
def RlEnd (f : Nat → List ByteArray → Nat → List Int) (c : Int) (l : List ByteArray) (w : World) (e : Ending) (w' : World) : Prop :=
  Below w.heap.size w w' ∧
  ((chkG c l ≠ 0 ∧ e = .returned (.tuple #[.slice none 0 0, .int .i64 (chkG c l)])) ∨
  (chkG c l = 0 ∧ ∃ u, e = .returned (.tuple #[u, .int .i64 0]) ∧ InAt w' u (f c.toNat l c.toNat)))

set_option maxRecDepth 100000 in
set_option maxHeartbeats 4000000 in
theorem rleast_any (c : Int) (v : Value) (l : List ByteArray) (hl : l.length ≤ 9223372036854775807) (hsz : ∀ t ∈ l, t.size ≤ 9223372036854775807) (w : World) (hS : StrsAt w v l) :
    Calls Try.prog 8 #[.agg #[.int .i64 c, v]] w (RlEnd leS c l w) := by
  have hB0 := (Below.refl w.heap.size w).alloc (Nat.le_refl _) (.cells #[.int .i64 c, v] 24)
  have hS0 := hS.below hB0 (Nat.le_refl _)
  have hs0 : (w.alloc (.cells #[.int .i64 c, v] 24)).heap.size = w.heap.size + 1 := World.size_alloc _ _
  have hbx : (w.alloc (.cells #[.int .i64 c, v] 24)).heap[w.heap.size]? = some (.cells #[.int .i64 c, v] 24) := World.alloc_heap_new w _
  have hck := rcheck_any16 c v l hl hsz _ hS0
  by_cases hz : ¬ chkG c l = 0
  · have hne : ¬ chkG c l = 0 := hz
    have c0 : (w.alloc (.cells #[.int .i64 c, v] 24)).cell? ⟨w.heap.size, 0, none⟩ = some (.int .i64 c) := by rw [Lib.cell_of_heap hbx]; rfl
    have c1 : (w.alloc (.cells #[.int .i64 c, v] 24)).cell? ⟨w.heap.size, 1, none⟩ = some v := by rw [Lib.cell_of_heap hbx]; rfl
    have hend : Hid (∀ e w1, e = .returned (.tuple #[.slice none 0 0, .int .i64 (chkG c l)]) → Below w.heap.size w w1 → RlEnd leS c l w e w1) := fun e w1 he hb => ⟨hb, .inl ⟨hz, he⟩⟩
    generalize chkG c l = ee at *
    generalize hP : RlEnd leS c l w = P at *
    go_enter Try.func8, Try.ntmps8
    go_wp2_with (go_at_call 15; refine hck.mono ?_; rintro e w1 ⟨rfl, b1⟩)
    exact hend.out _ _ rfl (hB0.trans (b1.mono hB0.size))
  replace hz := Classical.not_not.1 hz
  rw [hz] at hck
  obtain ⟨n, rfl, hn1, hl1, hd1, hC1⟩ := chk_ok hz
  have hT : Tab n l := ⟨hn1, hl1, hd1, hC1⟩
  obtain ⟨n1, n2⟩ := hn1
  have c0 : (w.alloc (.cells #[.int .i64 n, v] 24)).cell? ⟨w.heap.size, 0, none⟩ = some (.int .i64 n) := by rw [Lib.cell_of_heap hbx]; rfl
  have c1 : (w.alloc (.cells #[.int .i64 n, v] 24)).cell? ⟨w.heap.size, 1, none⟩ = some v := by rw [Lib.cell_of_heap hbx]; rfl
  have hco := fun W h => rcolumns_any n v l hT W h
  have hend : Hid (∀ u e w1, e = .returned (.tuple #[u, .int .i64 0]) → InAt w1 u (leS n l n) → Below w.heap.size w w1 → RlEnd leS n l w e w1) := fun u e w1 he hi hb => ⟨hb, .inr ⟨hz, u, he, hi⟩⟩
  have hln : (leS n l n).length = n := by simp [leS]
  generalize hP : RlEnd leS n l w = P at *
  go_enter Try.func8, Try.ntmps8
  go_wp2_with (first | (go_at_call 15; refine hck.mono ?_; rintro e w1 ⟨rfl, b1⟩; have hx1 := (b1.block w.heap.size (by omega)).trans hbx; have hlt1 := (Array.getElem?_eq_some_iff.1 hx1).1; (have c10 : w1.cell? ⟨w.heap.size, 0, none⟩ = some (.int .i64 n) := by rw [Lib.cell_of_heap hx1]; rfl); (have c11 : w1.cell? ⟨w.heap.size, 1, none⟩ = some v := by rw [Lib.cell_of_heap hx1]; rfl); have hB1 := hB0.trans (b1.mono hB0.size); have hS1 := hS0.below b1 (Nat.le_refl _)) | (go_at_call 28; refine (hco _ hS1).mono ?_; rintro e w2 ⟨bA, bB, hab, ha, hb, rfl, hIA, hIB, b2⟩; have hx2 := (b2.block w.heap.size hlt1).trans hx1; (have c20 : w2.cell? ⟨w.heap.size, 0, none⟩ = some (.int .i64 n) := by rw [Lib.cell_of_heap hx2]; rfl); (have c21 : w2.cell? ⟨w.heap.size, 1, none⟩ = some v := by rw [Lib.cell_of_heap hx2]; rfl); have hB2 := hB1.trans (b2.mono hB1.size)))
  have hi := hIA.at
  rw [hln] at hi
  exact hend.out _ _ _ rfl hi hB2

set_option maxRecDepth 100000 in
set_option maxHeartbeats 4000000 in
theorem rmost_any (c : Int) (v : Value) (l : List ByteArray) (hl : l.length ≤ 9223372036854775807) (hsz : ∀ t ∈ l, t.size ≤ 9223372036854775807) (w : World) (hS : StrsAt w v l) :
    Calls Try.prog 10 #[.agg #[.int .i64 c, v]] w (RlEnd leM c l w) := by
  have hB0 := (Below.refl w.heap.size w).alloc (Nat.le_refl _) (.cells #[.int .i64 c, v] 24)
  have hS0 := hS.below hB0 (Nat.le_refl _)
  have hs0 : (w.alloc (.cells #[.int .i64 c, v] 24)).heap.size = w.heap.size + 1 := World.size_alloc _ _
  have hbx : (w.alloc (.cells #[.int .i64 c, v] 24)).heap[w.heap.size]? = some (.cells #[.int .i64 c, v] 24) := World.alloc_heap_new w _
  have hck := rcheck_any16 c v l hl hsz _ hS0
  by_cases hz : ¬ chkG c l = 0
  · have hne : ¬ chkG c l = 0 := hz
    have c0 : (w.alloc (.cells #[.int .i64 c, v] 24)).cell? ⟨w.heap.size, 0, none⟩ = some (.int .i64 c) := by rw [Lib.cell_of_heap hbx]; rfl
    have c1 : (w.alloc (.cells #[.int .i64 c, v] 24)).cell? ⟨w.heap.size, 1, none⟩ = some v := by rw [Lib.cell_of_heap hbx]; rfl
    have hend : Hid (∀ e w1, e = .returned (.tuple #[.slice none 0 0, .int .i64 (chkG c l)]) → Below w.heap.size w w1 → RlEnd leM c l w e w1) := fun e w1 he hb => ⟨hb, .inl ⟨hz, he⟩⟩
    generalize chkG c l = ee at *
    generalize hP : RlEnd leM c l w = P at *
    go_enter Try.func10, Try.ntmps10
    go_wp2_with (go_at_call 15; refine hck.mono ?_; rintro e w1 ⟨rfl, b1⟩)
    exact hend.out _ _ rfl (hB0.trans (b1.mono hB0.size))
  replace hz := Classical.not_not.1 hz
  rw [hz] at hck
  obtain ⟨n, rfl, hn1, hl1, hd1, hC1⟩ := chk_ok hz
  have hT : Tab n l := ⟨hn1, hl1, hd1, hC1⟩
  obtain ⟨n1, n2⟩ := hn1
  have c0 : (w.alloc (.cells #[.int .i64 n, v] 24)).cell? ⟨w.heap.size, 0, none⟩ = some (.int .i64 n) := by rw [Lib.cell_of_heap hbx]; rfl
  have c1 : (w.alloc (.cells #[.int .i64 n, v] 24)).cell? ⟨w.heap.size, 1, none⟩ = some v := by rw [Lib.cell_of_heap hbx]; rfl
  have hco := fun W h => rcolumns_any n v l hT W h
  have hend : Hid (∀ u e w1, e = .returned (.tuple #[u, .int .i64 0]) → InAt w1 u (leM n l n) → Below w.heap.size w w1 → RlEnd leM n l w e w1) := fun u e w1 he hi hb => ⟨hb, .inr ⟨hz, u, he, hi⟩⟩
  have hln : (leM n l n).length = n := by simp [leM]
  generalize hP : RlEnd leM n l w = P at *
  go_enter Try.func10, Try.ntmps10
  go_wp2_with (first | (go_at_call 15; refine hck.mono ?_; rintro e w1 ⟨rfl, b1⟩; have hx1 := (b1.block w.heap.size (by omega)).trans hbx; have hlt1 := (Array.getElem?_eq_some_iff.1 hx1).1; (have c10 : w1.cell? ⟨w.heap.size, 0, none⟩ = some (.int .i64 n) := by rw [Lib.cell_of_heap hx1]; rfl); (have c11 : w1.cell? ⟨w.heap.size, 1, none⟩ = some v := by rw [Lib.cell_of_heap hx1]; rfl); have hB1 := hB0.trans (b1.mono hB0.size); have hS1 := hS0.below b1 (Nat.le_refl _)) | (go_at_call 28; refine (hco _ hS1).mono ?_; rintro e w2 ⟨bA, bB, hab, ha, hb, rfl, hIA, hIB, b2⟩; have hx2 := (b2.block w.heap.size hlt1).trans hx1; (have c20 : w2.cell? ⟨w.heap.size, 0, none⟩ = some (.int .i64 n) := by rw [Lib.cell_of_heap hx2]; rfl); (have c21 : w2.cell? ⟨w.heap.size, 1, none⟩ = some v := by rw [Lib.cell_of_heap hx2]; rfl); have hB2 := hB1.trans (b2.mono hB1.size)))
  have hi := hIB.at
  rw [hln] at hi
  exact hend.out _ _ _ rfl hi hB2
end Go.Proofs.Ytkhnfmdhdfpdhaa

namespace Go.Proofs.Ytkhnfmdhdfpdhaa
open Go.RowKit Go.Shelf

/-- How the document's Widths ends. -/
def RwEnd (c : Int) (l : List ByteArray) (q : Int) (w : World) (e : Ending) (w' : World) : Prop :=
  Below w.heap.size w w' ∧
  ((chkG c l ≠ 0 ∧ e = .returned (.tuple #[.slice none 0 0, .bool false, .int .i64 (chkG c l)])) ∨
  (chkG c l = 0 ∧ ¬ (0 ≤ q ∧ q ≤ 4095) ∧ e = .returned (.tuple #[.slice none 0 0, .bool false, .int .i64 5])) ∨
  (chkG c l = 0 ∧ (0 ≤ q ∧ q ≤ 4095) ∧ ∃ u, e = .returned (.tuple #[u, .bool (decide (q < sumS c.toNat l)), .int .i64 0]) ∧ InAt w' u (wdL c.toNat l q) ∧ ∀ g, u.ownBlock = some g → w.heap.size ≤ g))
theorem wd_big {n : Nat} {l : List ByteArray} (hT : Tab n l) {q : Int} (hq : sumM n l ≤ q) : wdL n l q = leM n l n := by
  have hF := cols_few hT
  have hcn : (cols n l).length = n := cols_len n l
  have htn := hF.tot n (by omega)
  have hSd : sumS n l = tot (sAt (cols n l)) n := rfl
  have hMd : sumM n l = tot (mAt (cols n l)) n := rfl
  unfold wdL
  rw [if_neg (by omega)]
  unfold groL leM
  rw [hcn]
  refine List.map_congr_left (fun i hi => ?_)
  have hin : i < n := List.mem_range.1 hi
  have hg : ∀ k, k ≤ n → gv (groR (cols n l) q) (gt (cols n l) n) (gt (cols n l) k) = gt (cols n l) k := fun k hk => by
    have e1 : groR (cols n l) q = gt (cols n l) n := by unfold groR gt; rw [hcn]; omega
    have h1 := gt_rng hF (k := k) (by omega)
    have h2 := gt_rng hF (k := n) (by omega)
    have hmono : ∀ d, k + d ≤ n → gt (cols n l) k ≤ gt (cols n l) (k + d) := fun d => by
      induction d with
      | zero => intro _; exact Int.le_refl _
      | succ d ih =>
        intro hd
        have := ih (by omega)
        have h3 := gt_succ (L := cols n l) (k := k + d) (by omega)
        have h4 := hF.2 (k + d) (by omega)
        rw [show k + (d + 1) = k + d + 1 by omega, h3]
        omega
    have h5 := hmono (n - k) (by omega)
    rw [show k + (n - k) = n by omega] at h5
    rw [e1]
    by_cases h0 : gt (cols n l) n = 0
    · rw [h0, show gt (cols n l) k = 0 by omega, gv_zero]
    · unfold gv
      rw [show max (gt (cols n l) n) 1 = gt (cols n l) n by omega, Int.mul_comm, Int.mul_ediv_cancel _ h0]
  unfold groF
  rw [hcn, hg (i + 1) (by omega), hg i (by omega), gt_succ (by omega), sAt_cols hin, cols_get]
  omega
theorem src_int (w : World) (x : Int) : Srcs (w.alloc (.cells #[.int .i64 x] 3)) 1 (.slice (some ⟨w.heap.size, 0, none⟩) 1 1) 1 [.int .i64 x] :=
  ⟨rfl, fun u hu => by rw [List.mem_singleton.1 hu]; rfl, .inr ⟨_, _, rfl, fun j u hu => by
    match j with
    | 0 =>
      cases hu
      rw [show (⟨w.heap.size, 0, none⟩ : Addr).add 0 = ⟨w.heap.size, 0, none⟩ from if_pos rfl, Lib.cell_of_heap (World.alloc_heap_new w _)]
      rfl
    | j + 1 => simp at hu⟩⟩

set_option maxRecDepth 100000 in
set_option maxHeartbeats 8000000 in
theorem rwd_err (c : Int) (v : Value) (l : List ByteArray) (q : Int) (hl : l.length ≤ 9223372036854775807) (hsz : ∀ t ∈ l, t.size ≤ 9223372036854775807) (w : World) (hS : StrsAt w v l) (hbad : chkG c l ≠ 0 ∨ ¬ (0 ≤ q ∧ q ≤ 4095)) :
    Calls Try.prog 12 #[.agg #[.int .i64 c, v], .int .i64 q] w (RwEnd c l q w) := by
  have hB0 := (Below.refl w.heap.size w).alloc (Nat.le_refl _) (.cells #[.int .i64 c, v] 24)
  have hS0 := hS.below hB0 (Nat.le_refl _)
  have hs0 : (w.alloc (.cells #[.int .i64 c, v] 24)).heap.size = w.heap.size + 1 := World.size_alloc _ _
  have hbx : (w.alloc (.cells #[.int .i64 c, v] 24)).heap[w.heap.size]? = some (.cells #[.int .i64 c, v] 24) := World.alloc_heap_new w _
  have hck := rcheck_any16 c v l hl hsz _ hS0
  have c0 : (w.alloc (.cells #[.int .i64 c, v] 24)).cell? ⟨w.heap.size, 0, none⟩ = some (.int .i64 c) := by rw [Lib.cell_of_heap hbx]; rfl
  have c1 : (w.alloc (.cells #[.int .i64 c, v] 24)).cell? ⟨w.heap.size, 1, none⟩ = some v := by rw [Lib.cell_of_heap hbx]; rfl
  by_cases hz : ¬ chkG c l = 0
  · have hne : ¬ chkG c l = 0 := hz
    have hend : Hid (∀ e w1, e = .returned (.tuple #[.slice none 0 0, .bool false, .int .i64 (chkG c l)]) → Below w.heap.size w w1 → RwEnd c l q w e w1) := fun e w1 he hb => ⟨hb, .inl ⟨hz, he⟩⟩
    clear hbad
    generalize chkG c l = ee at *
    generalize hP : RwEnd c l q w = P at *
    go_enter Try.func12, Try.ntmps12
    go_wp2_with (go_at_call 15; refine hck.mono ?_; rintro e w1 ⟨rfl, b1⟩)
    go_ret3
    exact hend.out _ _ rfl (hB0.trans (b1.mono hB0.size))
  replace hz := Classical.not_not.1 hz
  rw [hz] at hck
  have hq : ¬ (0 ≤ q ∧ q ≤ 4095) := by
    rcases hbad with h | h
    · exact absurd hz h
    · exact h
  have hend : Hid (∀ e w1, e = .returned (.tuple #[.slice none 0 0, .bool false, .int .i64 5]) → Below w.heap.size w w1 → RwEnd c l q w e w1) := fun e w1 he hb => ⟨hb, .inr (.inl ⟨hz, hq, he⟩)⟩
  clear hbad
  generalize hP : RwEnd c l q w = P at *
  by_cases h0 : q < 0
  · go_enter Try.func12, Try.ntmps12
    go_wp2_with (go_at_call 15; refine hck.mono ?_; rintro e w1 ⟨rfl, b1⟩)
    go_ret3
    exact hend.out _ _ rfl (hB0.trans (b1.mono hB0.size))
  · have h1 : 4095 < q := by omega
    go_enter Try.func12, Try.ntmps12
    go_wp2_with (go_at_call 15; refine hck.mono ?_; rintro e w1 ⟨rfl, b1⟩)
    go_ret3
    exact hend.out _ _ rfl (hB0.trans (b1.mono hB0.size))

set_option maxRecDepth 100000 in
set_option maxHeartbeats 8000000 in
theorem rwd_big (c : Int) (v : Value) (l : List ByteArray) (q : Int) (hl : l.length ≤ 9223372036854775807) (hsz : ∀ t ∈ l, t.size ≤ 9223372036854775807) (w : World) (hS : StrsAt w v l) (hz0 : chkG c l = 0) (hq : 0 ≤ q ∧ q ≤ 4095) (hcase : sumM c.toNat l ≤ q) :
    Calls Try.prog 12 #[.agg #[.int .i64 c, v], .int .i64 q] w (RwEnd c l q w) := by
  have hB0 := (Below.refl w.heap.size w).alloc (Nat.le_refl _) (.cells #[.int .i64 c, v] 24)
  have hS0 := hS.below hB0 (Nat.le_refl _)
  have hs0 : (w.alloc (.cells #[.int .i64 c, v] 24)).heap.size = w.heap.size + 1 := World.size_alloc _ _
  have hbx : (w.alloc (.cells #[.int .i64 c, v] 24)).heap[w.heap.size]? = some (.cells #[.int .i64 c, v] 24) := World.alloc_heap_new w _
  have hck := rcheck_any16 c v l hl hsz _ hS0
  have hz : ¬ ¬ chkG c l = 0 := fun h => h hz0
  replace hz := Classical.not_not.1 hz
  rw [hz] at hck
  obtain ⟨n, rfl, hn1, hl1, hd1, hC1⟩ := chk_ok hz
  have hT : Tab n l := ⟨hn1, hl1, hd1, hC1⟩
  obtain ⟨n1, n2⟩ := hn1
  have c0 : (w.alloc (.cells #[.int .i64 n, v] 24)).cell? ⟨w.heap.size, 0, none⟩ = some (.int .i64 n) := by rw [Lib.cell_of_heap hbx]; rfl
  have c1 : (w.alloc (.cells #[.int .i64 n, v] 24)).cell? ⟨w.heap.size, 1, none⟩ = some v := by rw [Lib.cell_of_heap hbx]; rfl
  have hco := fun W h => rcolumns_any n v l hT W h
  replace hcase : sumM n l ≤ q := hcase
  have hq0 : ¬ q < 0 := by omega
  have hq1 : ¬ 4095 < q := by omega
  have hfit := fit_of hT hq
  have hlS : (leS n l n).length = n := by simp [leS]
  have hlM : (leM n l n).length = n := by simp [leM]
  have hsS : ∀ (k : Nat), k ≤ n → ∀ (b : Nat) W, IBk W b (leS n l n) → Calls Try.prog 33 #[.slice (some ⟨b, 0, none⟩) n n, .int .i64 (k : Int)] W fun e w' => e = .returned (.int .i64 (smI (leS n l n) k)) ∧ w' = W := fun k hk b W h => by
    have h2 := h.at
    rw [hlS] at h2
    exact rsum_any16 _ (leS n l n) 819004 (by omega) (by omega) (by rw [hlS]; exact hfit.ra) k (by omega) W h2
  have hsM : ∀ (k : Nat), k ≤ n → ∀ (b : Nat) W, IBk W b (leM n l n) → Calls Try.prog 33 #[.slice (some ⟨b, 0, none⟩) n n, .int .i64 (k : Int)] W fun e w' => e = .returned (.int .i64 (smI (leM n l n) k)) ∧ w' = W := fun k hk b W h => by
    have h2 := h.at
    rw [hlM] at h2
    exact rsum_any16 _ (leM n l n) 819004 (by omega) (by omega) (by rw [hlM]; exact hfit.rb) k (by omega) W h2
  have eS : ∀ k, k ≤ n → smI (leS n l n) k = tot (sAt (cols n l)) k := fun k hk => sm_leS n l k hk
  have eM : ∀ k, k ≤ n → smI (leM n l n) k = tot (mAt (cols n l)) k := fun k hk => sm_leM n l k hk
  have eSn : smI (leS n l n) n = sumS n l := sm_leS n l n (Nat.le_refl _)
  have eMn : smI (leM n l n) n = sumM n l := sm_leM n l n (Nat.le_refl _)
  have hF := cols_few hT
  have hcn : (cols n l).length = n := cols_len n l
  have htt := fun k (hk : k ≤ n) => hF.tot k (by omega)
  have htn := htt n (Nat.le_refl _)
  have hSd : sumS n l = tot (sAt (cols n l)) n := rfl
  have hMd : sumM n l = tot (mAt (cols n l)) n := rfl
  rw [← hSd, ← hMd] at htn
  have hSn := hsS n (Nat.le_refl _)
  have hMn := hsM n (Nat.le_refl _)
  rw [eSn] at hSn
  rw [eMn] at hMn
  have hend : Hid (∀ u e w1, e = .returned (.tuple #[u, .bool false, .int .i64 0]) → InAt w1 u (leM n l n) → Below w.heap.size w w1 → (∀ g, u.ownBlock = some g → w.heap.size ≤ g) → RwEnd n l q w e w1) := fun u e w1 he hi hb hg => ⟨hb, .inr (.inr ⟨hz, hq, u, by rw [he, show (n : Int).toNat = n from rfl, decide_eq_false (by omega)], by rw [show (n : Int).toNat = n from rfl, wd_big hT hcase]; exact hi, hg⟩)⟩
  clear hsS hsM eS eM eSn eMn htt hSd hMd hSn hfit hF
  generalize sumM n l = M at *
  generalize hP : RwEnd n l q w = P at *
  go_enter Try.func12, Try.ntmps12
  go_wp2_with (first | (go_at_call 15; refine hck.mono ?_; rintro e w1 ⟨rfl, b1⟩; have hx1 := (b1.block w.heap.size (by omega)).trans hbx; have hlt1 := (Array.getElem?_eq_some_iff.1 hx1).1; (have c10 : w1.cell? ⟨w.heap.size, 0, none⟩ = some (.int .i64 n) := by rw [Lib.cell_of_heap hx1]; rfl); (have c11 : w1.cell? ⟨w.heap.size, 1, none⟩ = some v := by rw [Lib.cell_of_heap hx1]; rfl); have hB1 := hB0.trans (b1.mono hB0.size); have hS1 := hS0.below b1 (Nat.le_refl _)) | (go_at_call 28; refine (hco _ hS1).mono ?_; rintro e w2 ⟨bA, bB, hab, ha, hb, rfl, hIA, hIB, b2⟩; have hx2 := (b2.block w.heap.size hlt1).trans hx1; (have c20 : w2.cell? ⟨w.heap.size, 0, none⟩ = some (.int .i64 n) := by rw [Lib.cell_of_heap hx2]; rfl); (have c21 : w2.cell? ⟨w.heap.size, 1, none⟩ = some v := by rw [Lib.cell_of_heap hx2]; rfl); have hB2 := hB1.trans (b2.mono hB1.size)) | (go_at_call 33; refine (hMn bB w2 hIB).mono ?_; rintro e w3 ⟨rfl, rfl⟩))
  go_ret3
  have hi := hIB.at
  rw [hlM] at hi
  have hz1 := hB1.size
  exact hend.out _ _ _ rfl hi hB2 (fun g hg => by have h9 : bB = g := Option.some.inj hg; omega)
end Go.Proofs.Ytkhnfmdhdfpdhaa
