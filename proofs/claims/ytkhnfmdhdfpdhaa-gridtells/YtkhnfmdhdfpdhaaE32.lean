/-
  What is proved here: the document's widths for a room, where the table is tight.
  What is proved here: the document's widths for a room, where columns grow.
  What is proved here: the document's widths for a room, for every table.
-/
import Derived.Test.YtkhnfmdhdfpdhaaE31
namespace Go.Proofs.Ytkhnfmdhdfpdhaa
open Go.RowKit Go.Shelf

set_option maxRecDepth 100000 in
set_option maxHeartbeats 8000000 in
theorem rwd_tight (c : Int) (v : Value) (l : List ByteArray) (q : Int) (hl : l.length ≤ 9223372036854775807) (hsz : ∀ t ∈ l, t.size ≤ 9223372036854775807) (w : World) (hS : StrsAt w v l) (hz0 : chkG c l = 0) (hq : 0 ≤ q ∧ q ≤ 4095) (hcase : q < sumS c.toNat l) :
    Calls Try.prog 12 #[.agg #[.int .i64 c, v], .int .i64 q] w (RwEnd c l q w) := by
  have hB0 := (Below.refl w.heap.size w).alloc (Nat.le_refl _) (.cells #[.int .i64 c, v] 24)
  have hS0 := hS.below hB0 (Nat.le_refl _)
  have hs0 : (w.alloc (.cells #[.int .i64 c, v] 24)).heap.size = w.heap.size + 1 := World.size_alloc _ _
  have hbx : (w.alloc (.cells #[.int .i64 c, v] 24)).heap[w.heap.size]? = some (.cells #[.int .i64 c, v] 24) := World.alloc_heap_new w _
  have hck := rcheck_any16 c v l hl hsz _ hS0
  have hz : ¬ ¬ chkG c l = 0 := fun h => h hz0
  replace hz := Classical.not_not.1 hz
  rw [hz] at hck
  obtain ⟨n, rfl, hn1, hl1, hd1, hC1⟩ := chk_ok hz
  have hT : Tab n l := ⟨hn1, hl1, hd1, hC1⟩
  obtain ⟨n1, n2⟩ := hn1
  have c0 : (w.alloc (.cells #[.int .i64 n, v] 24)).cell? ⟨w.heap.size, 0, none⟩ = some (.int .i64 n) := by rw [Lib.cell_of_heap hbx]; rfl
  have c1 : (w.alloc (.cells #[.int .i64 n, v] 24)).cell? ⟨w.heap.size, 1, none⟩ = some v := by rw [Lib.cell_of_heap hbx]; rfl
  have hco := fun W h => rcolumns_any n v l hT W h
  replace hcase : q < sumS n l := hcase
  have hq0 : ¬ q < 0 := by omega
  have hq1 : ¬ 4095 < q := by omega
  have hfit := fit_of hT hq
  have hlS : (leS n l n).length = n := by simp [leS]
  have hlM : (leM n l n).length = n := by simp [leM]
  have hsS : ∀ (k : Nat), k ≤ n → ∀ (b : Nat) W, IBk W b (leS n l n) → Calls Try.prog 33 #[.slice (some ⟨b, 0, none⟩) n n, .int .i64 (k : Int)] W fun e w' => e = .returned (.int .i64 (smI (leS n l n) k)) ∧ w' = W := fun k hk b W h => by
    have h2 := h.at
    rw [hlS] at h2
    exact rsum_any16 _ (leS n l n) 819004 (by omega) (by omega) (by rw [hlS]; exact hfit.ra) k (by omega) W h2
  have hsM : ∀ (k : Nat), k ≤ n → ∀ (b : Nat) W, IBk W b (leM n l n) → Calls Try.prog 33 #[.slice (some ⟨b, 0, none⟩) n n, .int .i64 (k : Int)] W fun e w' => e = .returned (.int .i64 (smI (leM n l n) k)) ∧ w' = W := fun k hk b W h => by
    have h2 := h.at
    rw [hlM] at h2
    exact rsum_any16 _ (leM n l n) 819004 (by omega) (by omega) (by rw [hlM]; exact hfit.rb) k (by omega) W h2
  have eS : ∀ k, k ≤ n → smI (leS n l n) k = tot (sAt (cols n l)) k := fun k hk => sm_leS n l k hk
  have eM : ∀ k, k ≤ n → smI (leM n l n) k = tot (mAt (cols n l)) k := fun k hk => sm_leM n l k hk
  have eSn : smI (leS n l n) n = sumS n l := sm_leS n l n (Nat.le_refl _)
  have eMn : smI (leM n l n) n = sumM n l := sm_leM n l n (Nat.le_refl _)
  have hF := cols_few hT
  have hcn : (cols n l).length = n := cols_len n l
  have htt := fun k (hk : k ≤ n) => hF.tot k (by omega)
  have htn := htt n (Nat.le_refl _)
  have hSd : sumS n l = tot (sAt (cols n l)) n := rfl
  have hMd : sumM n l = tot (mAt (cols n l)) n := rfl
  rw [← hSd, ← hMd] at htn
  have hSn := hsS n (Nat.le_refl _)
  have hMn := hsM n (Nat.le_refl _)
  rw [eSn] at hSn
  rw [eMn] at hMn
  have hbig : ¬ sumM n l ≤ q := by omega
  obtain ⟨up, hup⟩ : ∃ up : Nat → Int, ∀ k, up k = q * (k : Int) / (n : Int) := ⟨fun k => q * (k : Int) / (n : Int), fun _ => rfl⟩
  have hgv : ∀ k : Nat, gv q n (k : Int) = up k := fun k => by
    rw [hup]; unfold gv; rw [show max (n : Int) 1 = n by omega]
  have hup0 : up 0 = 0 := by rw [← hgv]; exact gv_zero _ _
  have hupr : ∀ k, k ≤ n → 0 ≤ up k ∧ up k ≤ 4095 * 8 := fun k hk => by
    rw [← hgv]
    have h1 := gv_rng (r := q) (p := n) (t := (k : Int)) hq.1 (by omega)
    have h2 : q * (k : Int) ≤ 4095 * 8 := Int.mul_le_mul hq.2 (by omega) (by omega) (by omega)
    omega
  have hLup : wdL n l q = (List.range n).map (fun i => up (i + 1) - up i) := by
    unfold wdL
    rw [if_pos hcase]
    unfold evL
    refine List.map_congr_left (fun i _ => ?_)
    unfold evF
    rw [hgv, hgv]
  have hL : wdL n l q = (List.range n).map (fun i => up (i + 1) - up i) := hLup
  have hend : Hid (∀ u e w1, e = .returned (.tuple #[u, .bool true, .int .i64 0]) → InAt w1 u ((List.range n).map (fun i => up (i + 1) - up i)) → Below w.heap.size w w1 → (∀ g, u.ownBlock = some g → w.heap.size ≤ g) → RwEnd n l q w e w1) := fun u e w1 he hi hb hg => ⟨hb, .inr (.inr ⟨hz, hq, u, by rw [he, show (n : Int).toNat = n from rfl, decide_eq_true hcase], by rw [show (n : Int).toNat = n from rfl, hL]; exact hi, hg⟩)⟩
  clear hfit htt hF hcn hSd hMd eS eM hT hC1 hd1 hl1 hL hLup eSn eMn hgv
  clear hsS hsM
  generalize sumS n l = S at *
  generalize sumM n l = M at *
  generalize leS n l n = LA at *
  generalize leM n l n = LB at *
  generalize hP : RwEnd n l q w = P at *
  have k1 : True := trivial
  obtain ⟨i0, hi, hz0', hz1, hz2⟩ := info_parts info3z
  have hi' : Hid _ := hi
  clear hi
  go_enter Try.func12, Try.ntmps12
  go_wp2_with (first | (go_at_call 15; refine hck.mono ?_; rintro e w1 ⟨rfl, b1⟩; have hx1 := (b1.block w.heap.size (by omega)).trans hbx; have hlt1 := (Array.getElem?_eq_some_iff.1 hx1).1; (have c10 : w1.cell? ⟨w.heap.size, 0, none⟩ = some (.int .i64 n) := by rw [Lib.cell_of_heap hx1]; rfl); (have c11 : w1.cell? ⟨w.heap.size, 1, none⟩ = some v := by rw [Lib.cell_of_heap hx1]; rfl); have hB1 := hB0.trans (b1.mono hB0.size); have hS1 := hS0.below b1 (Nat.le_refl _)) | (go_at_call 28; refine (hco _ hS1).mono ?_; rintro e w2 ⟨bA, bB, hab, ha, hb, rfl, hIA, hIB, b2⟩; have hx2 := (b2.block w.heap.size hlt1).trans hx1; (have c20 : w2.cell? ⟨w.heap.size, 0, none⟩ = some (.int .i64 n) := by rw [Lib.cell_of_heap hx2]; rfl); (have c21 : w2.cell? ⟨w.heap.size, 1, none⟩ = some v := by rw [Lib.cell_of_heap hx2]; rfl); have hB2 := hB1.trans (b2.mono hB1.size)) | (go_at_call 33; clear k1; refine (hMn bB w2 hIB).mono ?_; rintro e w3 ⟨rfl, h3⟩; subst w3) | (go_at_call 33; refine (hSn bA w2 hIA).mono ?_; rintro e w3 ⟨rfl, h3⟩; subst w3))
  clear hck hco hS0 hbx hx1 hx2 c0 c1 c10 c11 c20 c21 hS1
  have hlA := hIA.lt
  have hlB := hIB.lt
  go_loopw [12, 13, 14] (fun u b i wr => ∃ k : Nat, k ≤ n ∧ i = .int .i64 ((k : Int) + 1) ∧ b = .int .i64 (up k) ∧ Below w2.heap.size w2 wr ∧ Hid (wr.ownsRow w2.heap.size 3 1 u k (ints ((List.range k).map (fun i => up (i + 1) - up i))))) (fun _ _ i _ => n + 1 - (intOf i).toNat)
  case atStart => exact ⟨0, by omega, rfl, by rw [hup0], Below.refl _ _, World.ownsRow_nil _ _ _ _⟩
  case round =>
    obtain ⟨k, hk, rfl, rfl, hb', hrow⟩ := hrel
    by_cases hlt : k < n
    · have hlt' : (k : Int) + 1 ≤ n := by omega
      have hnext : Hid (ints ((List.range k).map (fun i => up (i + 1) - up i)) ++ [.int .i64 (up (k + 1) - up k)] = ints ((List.range (k + 1)).map (fun i => up (i + 1) - up i))) := (by simp [ints, List.range_succ] : _ = _)
      have hu := hupr k (by omega)
      have hu1 := hupr (k + 1) (by omega)
      have hm0 : 0 ≤ q * ((k : Int) + 1) := Int.mul_nonneg hq.1 (by omega)
      have hm1 : q * ((k : Int) + 1) ≤ 4095 * 9 := Int.mul_le_mul hq.2 (by omega) (by omega) (by omega)
      have hU : Hid (up (k + 1) = q * ((k : Int) + 1) / (n : Int)) := (by rw [hup]; rfl : _ = _)
      have hnz : ¬ (n : Int) = 0 := by omega
      have hrow' := hrow.out
      clear hrow
      generalize hw5 : ints ((List.range k).map (fun i => up (i + 1) - up i)) = xs at *
      clear hw5
      generalize up k = u0 at *
      rw [hU.out] at hu1 hnext
      go_wp2_with (first | (at_builtin; refine wpList_append_any _ rfl _ _ 26 rfl w2.heap.size 3 i0 _ 1 8 Try.underlying26 hi'.out hz0' hz1 hz2 rfl (by decide) _ k xs rfl (hrow'.alloc _) 1 [.int .i64 (q * ((k : Int) + 1) / (n : Int) - u0)] _ rfl (src_int wr (q * ((k : Int) + 1) / (n : Int) - u0)) (by unfold maxLen; omega) (by omega) (by have := hb'.size; simp; omega) ?_; intro v' w5 hown hgrow))
      have hown' : Hid _ := hown
      have hb5 := below_grown ((hb'.alloc hb'.size _)) (hrow'.alloc _) (Nat.le_refl _) (Nat.le_refl _) hgrow
      go_roundw
      case rel => exact ⟨k + 1, by omega, by simp, by rw [hU.out], hb5, by rw [← hnext.out]; exact hown'.out⟩
      case measure => simp [intOf]; omega
    · obtain rfl : k = n := by omega
      have hge : ¬ ((k : Int) + 1 ≤ k) := by omega
      have hi2 : Hid _ := in_of_row (by simp) hrow.out
      have hfr : Hid _ := fun g hg => (hrow.out.lt g hg).1
      have hz2 := hB2.size
      clear hrow
      go_wp2_with fail
      go_ret3
      exact hend.out _ _ _ rfl hi2.out (hB2.trans (hb'.mono hB2.size)) (fun g hg => Nat.le_trans hz2 (hfr.out g hg))
end Go.Proofs.Ytkhnfmdhdfpdhaa

namespace Go.Proofs.Ytkhnfmdhdfpdhaa
open Go.RowKit Go.Shelf

set_option maxRecDepth 100000 in
set_option maxHeartbeats 8000000 in
theorem rwd_part (c : Int) (v : Value) (l : List ByteArray) (q : Int) (hl : l.length ≤ 9223372036854775807) (hsz : ∀ t ∈ l, t.size ≤ 9223372036854775807) (w : World) (hS : StrsAt w v l) (hz0 : chkG c l = 0) (hq : 0 ≤ q ∧ q ≤ 4095) (hcase : ¬ q < sumS c.toNat l ∧ q < sumM c.toNat l) :
    Calls Try.prog 12 #[.agg #[.int .i64 c, v], .int .i64 q] w (RwEnd c l q w) := by
  have hB0 := (Below.refl w.heap.size w).alloc (Nat.le_refl _) (.cells #[.int .i64 c, v] 24)
  have hS0 := hS.below hB0 (Nat.le_refl _)
  have hs0 : (w.alloc (.cells #[.int .i64 c, v] 24)).heap.size = w.heap.size + 1 := World.size_alloc _ _
  have hbx : (w.alloc (.cells #[.int .i64 c, v] 24)).heap[w.heap.size]? = some (.cells #[.int .i64 c, v] 24) := World.alloc_heap_new w _
  have hck := rcheck_any16 c v l hl hsz _ hS0
  have hz : ¬ ¬ chkG c l = 0 := fun h => h hz0
  replace hz := Classical.not_not.1 hz
  rw [hz] at hck
  obtain ⟨n, rfl, hn1, hl1, hd1, hC1⟩ := chk_ok hz
  have hT : Tab n l := ⟨hn1, hl1, hd1, hC1⟩
  obtain ⟨n1, n2⟩ := hn1
  have c0 : (w.alloc (.cells #[.int .i64 n, v] 24)).cell? ⟨w.heap.size, 0, none⟩ = some (.int .i64 n) := by rw [Lib.cell_of_heap hbx]; rfl
  have c1 : (w.alloc (.cells #[.int .i64 n, v] 24)).cell? ⟨w.heap.size, 1, none⟩ = some v := by rw [Lib.cell_of_heap hbx]; rfl
  have hco := fun W h => rcolumns_any n v l hT W h
  replace hcase : ¬ q < sumS n l ∧ q < sumM n l := hcase
  have hq0 : ¬ q < 0 := by omega
  have hq1 : ¬ 4095 < q := by omega
  have hfit := fit_of hT hq
  have hlS : (leS n l n).length = n := by simp [leS]
  have hlM : (leM n l n).length = n := by simp [leM]
  have hsS : ∀ (k : Nat), k ≤ n → ∀ (b : Nat) W, IBk W b (leS n l n) → Calls Try.prog 33 #[.slice (some ⟨b, 0, none⟩) n n, .int .i64 (k : Int)] W fun e w' => e = .returned (.int .i64 (smI (leS n l n) k)) ∧ w' = W := fun k hk b W h => by
    have h2 := h.at
    rw [hlS] at h2
    exact rsum_any16 _ (leS n l n) 819004 (by omega) (by omega) (by rw [hlS]; exact hfit.ra) k (by omega) W h2
  have hsM : ∀ (k : Nat), k ≤ n → ∀ (b : Nat) W, IBk W b (leM n l n) → Calls Try.prog 33 #[.slice (some ⟨b, 0, none⟩) n n, .int .i64 (k : Int)] W fun e w' => e = .returned (.int .i64 (smI (leM n l n) k)) ∧ w' = W := fun k hk b W h => by
    have h2 := h.at
    rw [hlM] at h2
    exact rsum_any16 _ (leM n l n) 819004 (by omega) (by omega) (by rw [hlM]; exact hfit.rb) k (by omega) W h2
  have eS : ∀ k, k ≤ n → smI (leS n l n) k = tot (sAt (cols n l)) k := fun k hk => sm_leS n l k hk
  have eM : ∀ k, k ≤ n → smI (leM n l n) k = tot (mAt (cols n l)) k := fun k hk => sm_leM n l k hk
  have eSn : smI (leS n l n) n = sumS n l := sm_leS n l n (Nat.le_refl _)
  have eMn : smI (leM n l n) n = sumM n l := sm_leM n l n (Nat.le_refl _)
  have hF := cols_few hT
  have hcn : (cols n l).length = n := cols_len n l
  have htt := fun k (hk : k ≤ n) => hF.tot k (by omega)
  have htn := htt n (Nat.le_refl _)
  have hSd : sumS n l = tot (sAt (cols n l)) n := rfl
  have hMd : sumM n l = tot (mAt (cols n l)) n := rfl
  rw [← hSd, ← hMd] at htn
  have hSn := hsS n (Nat.le_refl _)
  have hMn := hsM n (Nat.le_refl _)
  rw [eSn] at hSn
  rw [eMn] at hMn
  have hbig : ¬ sumM n l ≤ q := by omega
  obtain ⟨hc1, hc2⟩ := hcase
  replace hcase := hc1
  have hle2 : ∀ k, k ≤ n → 0 ≤ smI (leS n l n) k ∧ smI (leS n l n) k ≤ smI (leM n l n) k ∧ smI (leM n l n) k ≤ 6552032 := fun k hk => by
    rw [eS k hk, eM k hk]
    have := htt k hk
    omega
  obtain ⟨up, hup⟩ : ∃ up : Nat → Int, ∀ k, k ≤ n → up k = smI (leS n l n) k + (q - sumS n l) * (smI (leM n l n) k - smI (leS n l n) k) / (sumM n l - sumS n l) := ⟨fun k => smI (leS n l n) k + (q - sumS n l) * (smI (leM n l n) k - smI (leS n l n) k) / (sumM n l - sumS n l), fun _ _ => rfl⟩
  have hgv : ∀ k : Nat, k ≤ n → up k = tot (sAt (cols n l)) k + gv (groR (cols n l) q) (gt (cols n l) n) (gt (cols n l) k) := fun k hk => by
    rw [hup k hk, eS k hk, eM k hk]
    have e1 : groR (cols n l) q = q - sumS n l := by unfold groR; rw [hcn, ← hSd, ← hMd]; omega
    have e2 : gt (cols n l) n = sumM n l - sumS n l := rfl
    have e3 : gt (cols n l) k = tot (mAt (cols n l)) k - tot (sAt (cols n l)) k := rfl
    rw [e1, e2, e3]
    unfold gv
    rw [show max (sumM n l - sumS n l) 1 = sumM n l - sumS n l by omega]
  have hup0 : up 0 = 0 := by
    rw [hgv 0 (by omega), show gt (cols n l) 0 = 0 from rfl, gv_zero]; rfl
  have hbd : ∀ k, k ≤ n → 0 ≤ (q - sumS n l) * (smI (leM n l n) k - smI (leS n l n) k) ∧ (q - sumS n l) * (smI (leM n l n) k - smI (leS n l n) k) ≤ 4095 * 6552032 := fun k hk => by
    have := hle2 k hk
    exact ⟨Int.mul_nonneg (by omega) (by omega), Int.mul_le_mul (by omega) (by omega) (by omega) (by omega)⟩
  have hdv : ∀ k, k ≤ n → 0 ≤ (q - sumS n l) * (smI (leM n l n) k - smI (leS n l n) k) / (sumM n l - sumS n l) ∧ (q - sumS n l) * (smI (leM n l n) k - smI (leS n l n) k) / (sumM n l - sumS n l) ≤ 4095 * 6552032 := fun k hk => by
    have h1 := hbd k hk
    have h2 := Int.ediv_nonneg h1.1 (show 0 ≤ sumM n l - sumS n l by omega)
    have h3 := Int.ediv_le_self (sumM n l - sumS n l) h1.1
    omega
  have hupr : ∀ k, k ≤ n → 0 ≤ up k ∧ up k ≤ 100000000000 := fun k hk => by
    rw [hup k hk]
    have := hle2 k hk
    have := hdv k hk
    omega
  have hLup : wdL n l q = (List.range n).map (fun i => up (i + 1) - up i) := by
    unfold wdL
    rw [if_neg hcase]
    unfold groL
    rw [hcn]
    refine List.map_congr_left (fun i hi => ?_)
    have hin : i < n := List.mem_range.1 hi
    unfold groF
    rw [hgv (i + 1) (by omega), hgv i (by omega), hcn]
    show _ = tot (sAt (cols n l)) i + sAt (cols n l) i + _ - _
    omega
  have hL : wdL n l q = (List.range n).map (fun i => up (i + 1) - up i) := hLup
  have hend : Hid (∀ u e w1, e = .returned (.tuple #[u, .bool (decide (q < sumS n l)), .int .i64 0]) → InAt w1 u ((List.range n).map (fun i => up (i + 1) - up i)) → Below w.heap.size w w1 → (∀ g, u.ownBlock = some g → w.heap.size ≤ g) → RwEnd n l q w e w1) := fun u e w1 he hi hb hg => ⟨hb, .inr (.inr ⟨hz, hq, u, by rw [he, show (n : Int).toNat = n from rfl], by rw [show (n : Int).toNat = n from rfl, hL]; exact hi, hg⟩)⟩
  clear hfit htt hF hcn hSd hMd eS eM hT hC1 hd1 hl1 hL hLup eSn eMn hgv
  generalize sumS n l = S at *
  generalize sumM n l = M at *
  generalize leS n l n = LA at *
  generalize leM n l n = LB at *
  generalize hP : RwEnd n l q w = P at *
  have k1 : True := trivial
  obtain ⟨i0, hi, hz0', hz1, hz2⟩ := info_parts info3z
  have hi' : Hid _ := hi
  clear hi
  go_enter Try.func12, Try.ntmps12
  go_wp2_with (first | (go_at_call 15; refine hck.mono ?_; rintro e w1 ⟨rfl, b1⟩; have hx1 := (b1.block w.heap.size (by omega)).trans hbx; have hlt1 := (Array.getElem?_eq_some_iff.1 hx1).1; (have c10 : w1.cell? ⟨w.heap.size, 0, none⟩ = some (.int .i64 n) := by rw [Lib.cell_of_heap hx1]; rfl); (have c11 : w1.cell? ⟨w.heap.size, 1, none⟩ = some v := by rw [Lib.cell_of_heap hx1]; rfl); have hB1 := hB0.trans (b1.mono hB0.size); have hS1 := hS0.below b1 (Nat.le_refl _)) | (go_at_call 28; refine (hco _ hS1).mono ?_; rintro e w2 ⟨bA, bB, hab, ha, hb, rfl, hIA, hIB, b2⟩; have hx2 := (b2.block w.heap.size hlt1).trans hx1; (have c20 : w2.cell? ⟨w.heap.size, 0, none⟩ = some (.int .i64 n) := by rw [Lib.cell_of_heap hx2]; rfl); (have c21 : w2.cell? ⟨w.heap.size, 1, none⟩ = some v := by rw [Lib.cell_of_heap hx2]; rfl); have hB2 := hB1.trans (b2.mono hB1.size)) | (go_at_call 33; clear k1; refine (hMn bB w2 hIB).mono ?_; rintro e w3 ⟨rfl, h3⟩; subst w3) | (go_at_call 33; refine (hSn bA w2 hIA).mono ?_; rintro e w3 ⟨rfl, h3⟩; subst w3))
  clear hck hco hS0 hbx hx1 hx2 c0 c1 c10 c11 c20 c21 hS1
  have hlA := hIA.lt
  have hlB := hIB.lt
  go_loopw [12, 13, 14] (fun u b i wr => ∃ k : Nat, k ≤ n ∧ i = .int .i64 ((k : Int) + 1) ∧ b = .int .i64 (up k) ∧ Below w2.heap.size w2 wr ∧ Hid (wr.ownsRow w2.heap.size 3 1 u k (ints ((List.range k).map (fun i => up (i + 1) - up i))))) (fun _ _ i _ => n + 1 - (intOf i).toNat)
  case atStart => exact ⟨0, by omega, rfl, by rw [hup0], Below.refl _ _, World.ownsRow_nil _ _ _ _⟩
  case round =>
    obtain ⟨k, hk, rfl, rfl, hb', hrow⟩ := hrel
    by_cases hlt : k < n
    · have hlt' : (k : Int) + 1 ≤ n := by omega
      have hnext : Hid (ints ((List.range k).map (fun i => up (i + 1) - up i)) ++ [.int .i64 (up (k + 1) - up k)] = ints ((List.range (k + 1)).map (fun i => up (i + 1) - up i))) := (by simp [ints, List.range_succ] : _ = _)
      have hu := hupr k (by omega)
      have hu1 := hupr (k + 1) (by omega)
      have hSk := hsS (k + 1) (by omega) bA wr (hIA.below hb' hlA)
      have hMk := hsM (k + 1) (by omega) bB wr (hIB.below hb' hlB)
      have hSN := hSn bA wr (hIA.below hb' hlA)
      have hMN := hMn bB wr (hIB.below hb' hlB)
      have hb1' := hbd (k + 1) (by omega)
      have hd1' := hdv (k + 1) (by omega)
      have hl1' := hle2 (k + 1) (by omega)
      have hU : Hid (up (k + 1) = smI LA (k + 1) + (q - S) * (smI LB (k + 1) - smI LA (k + 1)) / (M - S)) := (hup (k + 1) (by omega) : _ = _)
      rw [show ((k + 1 : Nat) : Int) = (k : Int) + 1 by omega] at hSk hMk
      have hnz : ¬ (M - S) = 0 := by omega
      have hrow' := hrow.out
      clear hrow
      generalize hw5 : ints ((List.range k).map (fun i => up (i + 1) - up i)) = xs at *
      clear hw5
      generalize up k = u0 at *
      rw [hU.out] at hu1 hnext
      generalize smI LA (k + 1) = SA at *
      generalize smI LB (k + 1) = SB at *
      go_wp2_with (first 
        | (go_at_call 33; (with_reducible refine hSk.mono ?_); rintro e w7 ⟨rfl, h7⟩; subst w7)
        | (go_at_call 33; (with_reducible refine hMk.mono ?_); rintro e w7 ⟨rfl, h7⟩; subst w7)
        | (go_at_call 33; (with_reducible refine hSN.mono ?_); rintro e w7 ⟨rfl, h7⟩; subst w7)
        | (go_at_call 33; (with_reducible refine hMN.mono ?_); rintro e w7 ⟨rfl, h7⟩; subst w7)
        | (at_builtin; refine wpList_append_any _ rfl _ _ 26 rfl w2.heap.size 3 i0 _ 1 8 Try.underlying26 hi'.out hz0' hz1 hz2 rfl (by decide) _ k xs rfl (hrow'.alloc _) 1 [.int .i64 ((SA + (q - S) * (SB - SA) / (M - S)) - u0)] _ rfl (src_int wr ((SA + (q - S) * (SB - SA) / (M - S)) - u0)) (by unfold maxLen; omega) (by omega) (by have := hb'.size; simp; omega) ?_; intro v' w5 hown hgrow))
      have hown' : Hid _ := hown
      have hb5 := below_grown ((hb'.alloc hb'.size _)) (hrow'.alloc _) (Nat.le_refl _) (Nat.le_refl _) hgrow
      go_roundw
      case rel => exact ⟨k + 1, by omega, by simp, by rw [hU.out], hb5, by rw [← hnext.out]; exact hown'.out⟩
      case measure => simp [intOf]; omega
    · obtain rfl : k = n := by omega
      have hge : ¬ ((k : Int) + 1 ≤ k) := by omega
      have hi2 : Hid _ := in_of_row (by simp) hrow.out
      have hfr : Hid _ := fun g hg => (hrow.out.lt g hg).1
      have hz2 := hB2.size
      clear hrow
      go_wp2_with fail
      go_ret3
      exact hend.out _ _ _ rfl hi2.out (hB2.trans (hb'.mono hB2.size)) (fun g hg => Nat.le_trans hz2 (hfr.out g hg))
end Go.Proofs.Ytkhnfmdhdfpdhaa

namespace Go.Proofs.Ytkhnfmdhdfpdhaa
open Go.RowKit Go.Shelf

theorem rwidths_any (c : Int) (v : Value) (l : List ByteArray) (q : Int) (hl : l.length ≤ 9223372036854775807) (hsz : ∀ t ∈ l, t.size ≤ 9223372036854775807) (w : World) (hS : StrsAt w v l) :
    Calls Try.prog 12 #[.agg #[.int .i64 c, v], .int .i64 q] w (RwEnd c l q w) := by
  by_cases hz : chkG c l = 0
  · by_cases hq : 0 ≤ q ∧ q ≤ 4095
    · by_cases hb : sumM c.toNat l ≤ q
      · exact rwd_big c v l q hl hsz w hS hz hq hb
      · by_cases ht : q < sumS c.toNat l
        · exact rwd_tight c v l q hl hsz w hS hz hq ht
        · exact rwd_part c v l q hl hsz w hS hz hq ⟨ht, by omega⟩
    · exact rwd_err c v l q hl hsz w hS (.inr hq)
  · exact rwd_err c v l q hl hsz w hS (.inl hz)
end Go.Proofs.Ytkhnfmdhdfpdhaa
