/-
  What is proved here: what the document's Bounds, Start, Next, Prev and Bound tell.
-/
import Derived.Test.YtjmcfdmonckhmaaRefA
namespace Go.Proofs.Ytjmcfdmonckhmaa
open Go.RowKit Go.Shelf

theorem info3 : (Try.prog.info? 3).map (fun i => (i.zero, i.size, i.bytes)) = some (some (.int .i64 0), 1, 8) := by kernel_rfl
/-- The first boundaries of a text. -/
def bndC (t : ByteArray) (k : Nat) : List Value := (List.range (k + 1)).map (fun i => .int .i64 (st t i : Nat))
theorem bndC_len (t : ByteArray) (k : Nat) : (bndC t k).length = k + 1 := by simp [bndC]
theorem bndC_succ (t : ByteArray) (k : Nat) : bndC t (k + 1) = bndC t k ++ [.int .i64 (st t (k + 1) : Nat)] := by unfold bndC; rw [List.range_succ, List.map_append]; rfl
theorem bndC_get (t : ByteArray) {i k : Nat} (h : i ≤ k) : (bndC t k)[i]? = some (.int .i64 (st t i : Nat)) := by unfold bndC; rw [List.getElem?_map, List.getElem?_range (by omega)]; rfl
/-- Boundaries, in memory. -/
structure IntsAt (W : World) (b : Nat) (t : ByteArray) : Prop where
  lt : b < W.heap.size
  cell : ∀ i, i ≤ num t → W.cell? ⟨b, i, none⟩ = some (.int .i64 (st t i : Nat))
theorem IntsAt.below {W W' : World} {n b : Nat} {t : ByteArray} (h : IntsAt W b t) (hb : Below n W W') (hn : W.heap.size ≤ n) : IntsAt W' b t :=
  ⟨Nat.lt_of_lt_of_le h.lt hb.size, fun i hi => (hb.cell (Nat.lt_of_lt_of_le h.lt hn)).trans (h.cell i hi)⟩

theorem rsplit_cls (t : ByteArray) (h : wrongI t = 0) (w : World) : Calls Try.prog 9 #[.string t] w fun e w' => ∃ v, e = .returned (.tuple #[v, .int .i64 0]) ∧ ClsAt w' v (cls t) ∧ Below w.heap.size w w' := by
  refine (rsplit_ok t h w).mono ?_
  rintro e w' ⟨v, rfl, hr, hb⟩
  rw [rowC_cls] at hr
  exact ⟨v, rfl, own_cls (cls_len t).symm hr (by rw [cls_len]; have := num_le t; have := ok_size h; omega), hb⟩
theorem ClsAt.read {W : World} {v : Value} {t : ByteArray} (h : ClsAt W v (cls t)) : ∃ a cap, v = .slice a (num t) cap ∧ ∀ i, i < num t → ∀ W', Below W.heap.size W W' → ∃ b, a = some ⟨b, 0, none⟩ ∧ W'.cell? ⟨b, i * 3, none⟩ = some (.int .i64 (st t i : Nat)) ∧ W'.cell? ⟨b, i * 3 + 1, none⟩ = some (.int .i64 (st t (i + 1) : Nat)) := by
  obtain ⟨a, cap, rfl, h2⟩ := h.ex
  rw [cls_len]
  refine ⟨a, cap, rfl, fun i hi W' hW => ?_⟩
  rcases h2 with h2 | ⟨b, ha, hbl, hcc⟩
  · have := cls_len t; rw [h2] at this; simp at this; omega
  · obtain ⟨c0, c1, _⟩ := hcc i (by rw [cls_len]; exact hi)
    rw [cls_get] at c0 c1
    exact ⟨b, ha, (hW.cell hbl).trans c0, (hW.cell hbl).trans c1⟩
theorem src_int (w : World) (x : Int) : Srcs (w.alloc (.cells #[.int .i64 x] 3)) 1 (.slice (some ⟨w.heap.size, 0, none⟩) 1 1) 1 [.int .i64 x] :=
  ⟨rfl, by intro u hu; simp at hu; rw [hu]; rfl, .inr ⟨_, 1, rfl, cells_new w [.int .i64 x] 3⟩⟩

/-- What the rounds keep. -/
structure KeptB (t : ByteArray) (w : World) (v : Value) (k : Nat) (W : World) : Prop where
  row : W.ownsRow w.heap.size 3 1 v (k + 1) (bndC t k)
  below : Below w.heap.size w W

set_option maxRecDepth 100000 in
set_option maxHeartbeats 2000000 in
theorem bounds_ok (t : ByteArray) (h : wrongI t = 0) (w : World) : Calls Try.prog 28 #[.string t] w fun e w' => ∃ b cap, e = .returned (.slice (some ⟨b, 0, none⟩) (num t + 1) cap) ∧ IntsAt w' b t ∧ Below w.heap.size w w' := by
  have hs := rsplit_cls t h
  have hsz := ok_size h
  have hnl := num_le t
  obtain ⟨i0, hi, hz0, hz1, hz2⟩ := info_parts info3
  clear h
  go_enter Try.func28, Try.ntmps28
  go_wp2_with fail
  refine (hs _).mono ?_
  rintro e w1 ⟨v, rfl, hc, B1⟩
  obtain ⟨a, cap, rfl, hrd0⟩ := hc.read
  have hrd : Hid _ := hrd0
  clear hrd0 hc hs
  go_wp2_with fail
  have hk0 : Hid (KeptB t w1 (.slice (some ⟨w1.heap.size, 0, none⟩) 1 1) 0 (w1.alloc (.cells #[.int .i64 0] 3))) :=
    ⟨⟨rfl, .inr ⟨w1.heap.size, 1, #[.int .i64 0], rfl, Nat.le_refl _, World.alloc_heap_new w1 _, Nat.le_refl _, by unfold maxLen; omega, rfl, rfl⟩⟩, (Below.refl _ w1).alloc (Nat.le_refl _) _⟩
  go_loopw [5, 6] (fun v i wr => ∃ k : Nat, k ≤ num t ∧ i = .int .i64 k ∧ Hid (KeptB t w1 v k wr)) (fun _ i _ => num t - (intOf i).toNat)
  case atStart => exact ⟨0, Nat.zero_le _, rfl, hk0⟩
  case round =>
    obtain ⟨k, hk, rfl, hkp⟩ := hrel
    have hks := hkp.out.below.size
    by_cases hlt : k < num t
    · obtain ⟨b, rfl, c0, c1⟩ := hrd.out k hlt wr hkp.out.below
      have f1 : (k : Int) < num t := by omega
      have hrow1 : Hid (bndC t (k + 1) = bndC t k ++ [.int .i64 (st t (k + 1) : Nat)]) := bndC_succ t k
      generalize hq0 : st t (k + 1) = q at *
      clear hq0 c0 hk0 hrd
      go_wp2_with (at_builtin; refine wpList_append_any _ rfl _ _ 44 rfl w1.heap.size 3 i0 _ 1 8 Try.underlying44 hi hz0 hz1 hz2 rfl (by decide) _ (k + 1) (bndC t k) rfl (by exact hkp.out.row.alloc _) 1 _ _ rfl (by exact src_int wr q) (by unfold maxLen; omega) (by omega) (by simp; omega) ?_; intro v' w2 hown hgrow)
      have hkp2 : KeptB t w1 v' (k + 1) w2 := ⟨by rw [hrow1.out]; exact hown, below_grown (hkp.out.below.alloc hks _) (hkp.out.row.alloc _) (Nat.le_refl _) (Nat.le_refl _) hgrow⟩
      go_roundw
      case rel => exact ⟨k + 1, hlt, by simp, hkp2⟩
      case measure => simp [intOf]; omega
    · have f1 : ¬ (k : Int) < num t := by omega
      obtain rfl : k = num t := by omega
      obtain ⟨b, cap', cur, rfl, hb1, hg, _, _, _, _⟩ := hkp.out.row.2.resolve_left (fun h => by have := h.2; omega)
      go_wp2_with fail
      go_ret
      refine ⟨b, ⟨cap', rfl⟩, ⟨(Array.getElem?_eq_some_iff.1 hg).1, fun i hi => ?_⟩, B1.trans (hkp.out.below.mono B1.size)⟩
      have := hkp.out.row.cells (g := b) rfl i (.int .i64 (st t i : Nat)) (bndC_get t hi)
      rwa [addr_add0] at this

set_option maxRecDepth 100000 in
set_option maxHeartbeats 1000000 in
theorem rbound_wrong (t : ByteArray) (a : Int) (h : wrongI t ≠ 0) (w : World) : Calls Try.prog 19 #[.string t, .int .i64 a] w fun e w' => e = .returned (.bool (bndI t a)) ∧ Below w.heap.size w w' := by
  have hR := wrong_any t
  have e0 : bndI t a = false := by unfold bndI; exact decide_eq_false (fun h' => h h'.1)
  rw [e0]
  generalize wrongI t = n at h hR
  go_enter Try.func19, Try.ntmps19
  go_wp2_with (go_at_call 24; refine (hR _).mono ?_; rintro e w' ⟨rfl, hww⟩; subst w')
  go_ret
  exact ⟨rfl, Below.refl _ _⟩

theorem wrong_yes {t : ByteArray} (h : wrongI t = 0) (w : World) : Calls Try.prog 24 #[.string t] w fun e w' => e = .returned (.int .i64 0) ∧ w' = w := by
  have := wrong_any t w; rwa [h] at this

set_option maxRecDepth 100000 in
set_option maxHeartbeats 1000000 in
theorem rbound_ok (t : ByteArray) (h : wrongI t = 0) (a : Int) (w : World) : Calls Try.prog 19 #[.string t, .int .i64 a] w fun e w' => e = .returned (.bool (bndI t a)) ∧ Below w.heap.size w w' := by
  have hR := wrong_yes h
  have hBd := bounds_ok t h
  have hnl := num_le t
  have hsz := ok_size h
  have hyes : Hid (∀ i, i ≤ num t → (st t i : Int) = a → bndI t a = true) := fun i hi he => decide_eq_true ⟨h, i, hi, he⟩
  have hno : Hid ((∀ i, i ≤ num t → (st t i : Int) ≠ a) → bndI t a = false) := fun hn => decide_eq_false (fun ⟨_, i, hi, he⟩ => hn i hi he)
  generalize bndI t a = r at hyes hno ⊢
  clear h
  go_enter Try.func19, Try.ntmps19
  go_wp2_with (go_at_call 24; refine (hR _).mono ?_; rintro e w' ⟨rfl, hww⟩; subst w')
  refine (hBd _).mono ?_
  rintro e w1 ⟨b, cap, rfl, hc, B1⟩
  have hcc : Hid _ := hc.cell
  clear hR hBd hc
  go_wp2_with fail
  go_loopw [6] (fun i wr => ∃ k : Nat, k ≤ num t + 1 ∧ i = .int .i64 k ∧ wr = w1 ∧ Hid (∀ i, i < k → (st t i : Int) ≠ a)) (fun i _ => num t + 1 - (intOf i).toNat)
  case atStart => exact ⟨0, by omega, rfl, rfl, fun i hi => by omega⟩
  case round =>
    obtain ⟨k, hk, rfl, rfl, hall⟩ := hrel
    by_cases hlt : k ≤ num t
    · have c0 := hcc.out k hlt
      have f1 : (k : Int) < num t + 1 := by omega
      by_cases hst : (st t k : Int) = a
      · have hr := hyes.out k hlt hst
        have f2 : ((st t k : Int) == a) = true := by simpa using hst
        clear hyes hno hall hst hcc
        go_wp2_with fail
        go_ret
        exact ⟨by first | rfl | (rw [hr]; done) | (rw [hr]; rfl), B1⟩
      · have f2 : ((st t k : Int) == a) = false := by simpa using hst
        have hall2 : Hid (∀ i, i < k + 1 → (st t i : Int) ≠ a) := fun i hi => by
          by_cases h : i < k
          · exact hall.out i h
          · obtain rfl : i = k := by omega
            exact hst
        clear hyes hno hall hst hcc
        go_wp2_with fail
        go_roundw
        case rel => exact ⟨k + 1, by omega, by simp, by first | rfl | trivial, hall2⟩
        case measure => simp [intOf]; omega
    · have f1 : ¬ (k : Int) < num t + 1 := by omega
      have hr := hno.out (fun i hi => hall.out i (by omega))
      clear hyes hno hall hcc
      go_wp2_with fail
      go_ret
      exact ⟨by first | rfl | (rw [hr]; done) | (rw [hr]; rfl), B1⟩
theorem rbound_any (t : ByteArray) (a : Int) (w : World) : Calls Try.prog 19 #[.string t, .int .i64 a] w fun e w' => e = .returned (.bool (bndI t a)) ∧ Below w.heap.size w w' := by
  by_cases h : wrongI t = 0
  · exact rbound_ok t h a w
  · exact rbound_wrong t a h w

set_option maxRecDepth 100000 in
set_option maxHeartbeats 1000000 in
theorem rstart_wrong (t : ByteArray) (a : Int) (h : wrongI t ≠ 0) (w : World) : Calls Try.prog 13 #[.string t, .int .i64 a] w fun e w' => e = .returned (.tuple #[.int .i64 0, .int .i64 (wrongI t)]) ∧ Below w.heap.size w w' := by
  have hR := rsplit_no t h
  generalize wrongI t = n at h hR ⊢
  go_enter Try.func13, Try.ntmps13
  go_wp2_with (go_at_call 9; refine (hR _).mono ?_; rintro e w' ⟨rfl, hww⟩; subst w')
  go_ret2
  exact ⟨rfl, Below.refl _ _⟩

set_option maxRecDepth 100000 in
set_option maxHeartbeats 1000000 in
theorem rstart_ok (t : ByteArray) (h : wrongI t = 0) (a : Int) (x e : Int)
    (hx : (∃ i, i < num t ∧ (st t i : Int) ≤ a ∧ a < (st t (i + 1) : Nat) ∧ x = (st t i : Nat) ∧ e = 0) ∨ ((∀ i, i < num t → ¬ ((st t i : Int) ≤ a ∧ a < (st t (i + 1) : Nat))) ∧ x = 0 ∧ e = 5)) (w : World) :
    Calls Try.prog 13 #[.string t, .int .i64 a] w fun y w' => y = .returned (.tuple #[.int .i64 x, .int .i64 e]) ∧ Below w.heap.size w w' := by
  have hs := rsplit_cls t h
  have hnl := num_le t
  have hsz := ok_size h
  have hyes : Hid (∀ i, i < num t → (st t i : Int) ≤ a → a < (st t (i + 1) : Nat) → x = (st t i : Nat) ∧ e = 0) := fun i hi h1 h2 => by
    rcases hx with ⟨j, hj, h3, h4, h5⟩ | ⟨hn, _⟩
    · obtain rfl : i = j := by
        rcases Nat.lt_trichotomy i j with h' | h' | h'
        · have := st_mono t (show i + 1 ≤ j from h'); omega
        · exact h'
        · have := st_mono t (show j + 1 ≤ i from h'); omega
      exact h5
    · exact absurd ⟨h1, h2⟩ (hn i hi)
  have hno : Hid ((∀ i, i < num t → ¬ ((st t i : Int) ≤ a ∧ a < (st t (i + 1) : Nat))) → x = 0 ∧ e = 5) := fun hn => by
    rcases hx with ⟨j, hj, h3, h4, _⟩ | ⟨_, h5⟩
    · exact absurd ⟨h3, h4⟩ (hn j hj)
    · exact h5
  clear h hx
  go_enter Try.func13, Try.ntmps13
  go_wp2_with fail
  refine (hs _).mono ?_
  rintro _ w1 ⟨v, rfl, hc, B1⟩
  obtain ⟨ad, cap, rfl, hrd0⟩ := hc.read
  have hrd : Hid (∀ i, i < num t → ∃ b, ad = some ⟨b, 0, none⟩ ∧ w1.cell? ⟨b, i * 3, none⟩ = some (.int .i64 (st t i : Nat)) ∧ w1.cell? ⟨b, i * 3 + 1, none⟩ = some (.int .i64 (st t (i + 1) : Nat))) := fun i hi => hrd0 i hi w1 (Below.refl _ _)
  clear hrd0 hc hs
  go_wp2_with fail
  go_loopw [8] (fun i wr => ∃ k : Nat, k ≤ num t ∧ i = .int .i64 k ∧ wr = w1 ∧ Hid (∀ i, i < k → ¬ ((st t i : Int) ≤ a ∧ a < (st t (i + 1) : Nat)))) (fun i _ => num t - (intOf i).toNat)
  case atStart => exact ⟨0, by omega, rfl, rfl, fun i hi => by omega⟩
  case round =>
    obtain ⟨k, hk, rfl, rfl, hall⟩ := hrel
    by_cases hlt : k < num t
    · obtain ⟨b, rfl, c0, c1⟩ := hrd.out k hlt
      have f1 : (k : Int) < num t := by omega
      by_cases h1 : (st t k : Int) ≤ a
      · by_cases h2 : a < (st t (k + 1) : Nat)
        · obtain ⟨rfl, rfl⟩ := hyes.out k hlt h1 h2
          clear hyes hno hall hrd
          go_wp2_with fail
          go_ret2
          exact ⟨rfl, B1⟩
        · have hall2 : Hid (∀ i, i < k + 1 → ¬ ((st t i : Int) ≤ a ∧ a < (st t (i + 1) : Nat))) := fun i hi => by
            by_cases h : i < k
            · exact hall.out i h
            · obtain rfl : i = k := by omega
              exact fun h => h2 h.2
          clear hyes hno hall hrd
          go_wp2_with fail
          go_roundw
          case rel => exact ⟨k + 1, by omega, by simp, by first | rfl | trivial, hall2⟩
          case measure => simp [intOf]; omega
      · have hall2 : Hid (∀ i, i < k + 1 → ¬ ((st t i : Int) ≤ a ∧ a < (st t (i + 1) : Nat))) := fun i hi => by
          by_cases h : i < k
          · exact hall.out i h
          · obtain rfl : i = k := by omega
            exact fun h => h1 h.1
        clear hyes hno hall hrd
        go_wp2_with fail
        go_roundw
        case rel => exact ⟨k + 1, by omega, by simp, by first | rfl | trivial, hall2⟩
        case measure => simp [intOf]; omega
    · have f1 : ¬ (k : Int) < num t := by omega
      obtain ⟨rfl, rfl⟩ := hno.out (fun i hi => hall.out i (by omega))
      clear hyes hno hall hrd
      go_wp2_with fail
      go_ret2
      exact ⟨rfl, B1⟩

set_option maxRecDepth 100000 in
set_option maxHeartbeats 1000000 in
theorem rnext_no (t : ByteArray) (a : Int) (h : placeI t a (t.size : Int) ≠ 0) (w : World) : Calls Try.prog 15 #[.string t, .int .i64 a] w fun e w' => e = .returned (.tuple #[.int .i64 0, .int .i64 (placeI t a (t.size : Int))]) ∧ Below w.heap.size w w' := by
  have hR := wrong_any t
  by_cases hw : wrongI t = 0
  · have hn : ¬ (0 ≤ a ∧ a ≤ (t.size : Int)) := fun h' => h (by unfold placeI; rw [if_pos hw, if_pos h'])
    have e0 : placeI t a (t.size : Int) = 5 := by unfold placeI; rw [if_pos hw, if_neg hn]
    rw [e0]
    rw [hw] at hR
    by_cases h0 : a < 0
    · clear h hn e0 hw
      go_enter Try.func15, Try.ntmps15
      go_wp2_with (go_at_call 24; refine (hR _).mono ?_; rintro e w' ⟨rfl, hww⟩; subst w')
      go_ret2
      exact ⟨rfl, Below.refl _ _⟩
    · have h1 : (t.size : Int) < a := by omega
      clear h hn e0 hw
      go_enter Try.func15, Try.ntmps15
      go_wp2_with (go_at_call 24; refine (hR _).mono ?_; rintro e w' ⟨rfl, hww⟩; subst w')
      go_ret2
      exact ⟨rfl, Below.refl _ _⟩
  · have e0 : placeI t a (t.size : Int) = wrongI t := if_neg hw
    rw [e0]
    clear e0 h
    generalize wrongI t = n at hw hR ⊢
    go_enter Try.func15, Try.ntmps15
    go_wp2_with (go_at_call 24; refine (hR _).mono ?_; rintro e w' ⟨rfl, hww⟩; subst w')
    go_ret2
    exact ⟨rfl, Below.refl _ _⟩

set_option maxRecDepth 100000 in
set_option maxHeartbeats 1000000 in
theorem rprev_no (t : ByteArray) (a : Int) (h : placeI t a (t.size : Int) ≠ 0) (w : World) : Calls Try.prog 17 #[.string t, .int .i64 a] w fun e w' => e = .returned (.tuple #[.int .i64 0, .int .i64 (placeI t a (t.size : Int))]) ∧ Below w.heap.size w w' := by
  have hR := wrong_any t
  by_cases hw : wrongI t = 0
  · have hn : ¬ (0 ≤ a ∧ a ≤ (t.size : Int)) := fun h' => h (by unfold placeI; rw [if_pos hw, if_pos h'])
    have e0 : placeI t a (t.size : Int) = 5 := by unfold placeI; rw [if_pos hw, if_neg hn]
    rw [e0]
    rw [hw] at hR
    by_cases h0 : a < 0
    · clear h hn e0 hw
      go_enter Try.func17, Try.ntmps17
      go_wp2_with (go_at_call 24; refine (hR _).mono ?_; rintro e w' ⟨rfl, hww⟩; subst w')
      go_ret2
      exact ⟨rfl, Below.refl _ _⟩
    · have h1 : (t.size : Int) < a := by omega
      clear h hn e0 hw
      go_enter Try.func17, Try.ntmps17
      go_wp2_with (go_at_call 24; refine (hR _).mono ?_; rintro e w' ⟨rfl, hww⟩; subst w')
      go_ret2
      exact ⟨rfl, Below.refl _ _⟩
  · have e0 : placeI t a (t.size : Int) = wrongI t := if_neg hw
    rw [e0]
    clear e0 h
    generalize wrongI t = n at hw hR ⊢
    go_enter Try.func17, Try.ntmps17
    go_wp2_with (go_at_call 24; refine (hR _).mono ?_; rintro e w' ⟨rfl, hww⟩; subst w')
    go_ret2
    exact ⟨rfl, Below.refl _ _⟩

set_option maxRecDepth 100000 in
set_option maxHeartbeats 1000000 in
theorem rnext_ok (t : ByteArray) (h : wrongI t = 0) (a i : Nat) (hi : i ≤ num t) (h1 : st t i ≤ a) (h2 : i < num t → a < st t (i + 1)) (ha : a ≤ t.size) (w : World) :
    Calls Try.prog 15 #[.string t, .int .i64 a] w fun e w' => e = .returned (.tuple #[.int .i64 (st t (i + 1) : Nat), .int .i64 0]) ∧ Below w.heap.size w w' := by
  have hR := wrong_yes h
  have hBd := bounds_ok t h
  have hnl := num_le t
  have hsz := ok_size h
  have f0 : ¬ (a : Int) < 0 := by omega
  have f00 : ¬ (t.size : Int) < a := by omega
  have hend : Hid (¬ i < num t → t.size = st t (i + 1)) := fun hn => by
    have e : i = num t := by omega
    have := st_step t i; have := st_le t (i + 1); have e2 := num_end t; rw [← e] at e2; omega
  clear h
  go_enter Try.func15, Try.ntmps15
  go_wp2_with (go_at_call 24; refine (hR _).mono ?_; rintro e w' ⟨rfl, hww⟩; subst w')
  refine (hBd _).mono ?_
  rintro _ w1 ⟨b, cap, rfl, hc, B1⟩
  have hcc : Hid _ := hc.cell
  clear hR hBd hc
  go_wp2_with fail
  go_loopw [8] (fun q wr => ∃ k : Nat, k ≤ i + 1 ∧ q = .int .i64 k ∧ wr = w1) (fun q _ => num t + 1 - (intOf q).toNat)
  case atStart => exact ⟨0, by omega, rfl, rfl⟩
  case round =>
    obtain ⟨k, hk, rfl, rfl⟩ := hrel
    by_cases hlt : k ≤ num t
    · have c0 := hcc.out k hlt
      have f1 : (k : Int) < num t + 1 := by omega
      by_cases hki : k = i + 1
      · have hst : (a : Int) < (st t k : Nat) := by rw [hki]; have := h2 (by omega); omega
        have hk2 : Hid (st t k = st t (i + 1)) := by show st t k = _; rw [hki]
        clear hki hend
        go_wp2_with fail
        go_ret2
        exact ⟨by rw [← hk2.out]; rfl, B1⟩
      · have hst : ¬ (a : Int) < (st t k : Nat) := by have := st_mono t (show k ≤ i by omega); omega
        clear hend
        go_wp2_with fail
        go_roundw
        case rel => exact ⟨k + 1, by omega, by simp, by first | rfl | trivial⟩
        case measure => simp [intOf]; omega
    · have f1 : ¬ (k : Int) < num t + 1 := by omega
      have he : Hid (t.size = st t (i + 1)) := hend.out (by omega)
      clear hend
      go_wp2_with fail
      go_ret2
      exact ⟨by rw [← he.out]; rfl, B1⟩

set_option maxRecDepth 100000 in
set_option maxHeartbeats 1000000 in
theorem rprev_ok (t : ByteArray) (h : wrongI t = 0) (a n : Nat) (hn : n ≤ num t) (h1 : ∀ j, j < n → st t j < a) (h2 : a ≤ st t n) (ha : a ≤ t.size) (w : World) :
    Calls Try.prog 17 #[.string t, .int .i64 a] w fun e w' => e = .returned (.tuple #[.int .i64 (pv t n : Nat), .int .i64 0]) ∧ Below w.heap.size w w' := by
  have hR := wrong_yes h
  have hBd := bounds_ok t h
  have hnl := num_le t
  have hsz := ok_size h
  have f0 : ¬ (a : Int) < 0 := by omega
  have f00 : ¬ (t.size : Int) < a := by omega
  clear h
  go_enter Try.func17, Try.ntmps17
  go_wp2_with (go_at_call 24; refine (hR _).mono ?_; rintro e w' ⟨rfl, hww⟩; subst w')
  refine (hBd _).mono ?_
  rintro _ w1 ⟨b, cap, rfl, hc, B1⟩
  have hcc : Hid _ := hc.cell
  clear hR hBd hc
  go_wp2_with fail
  go_loopw [8, 9] (fun o q wr => ∃ k : Nat, k ≤ num t + 1 ∧ o = .int .i64 (pv t (min k n) : Nat) ∧ q = .int .i64 k ∧ wr = w1) (fun _ q _ => num t + 1 - (intOf q).toNat)
  case atStart => exact ⟨0, by omega, by rw [Nat.zero_min]; rfl, rfl, rfl⟩
  case round =>
    obtain ⟨k, hk, rfl, rfl, rfl⟩ := hrel
    by_cases hlt : k ≤ num t
    · have c0 := hcc.out k hlt
      have f1 : (k : Int) < num t + 1 := by omega
      by_cases hki : k < n
      · have hst : (st t k : Int) < a := by have := h1 k hki; omega
        have he : Hid (pv t (min (k + 1) n) = st t k) := by show pv t (min (k + 1) n) = st t k; rw [Nat.min_eq_left (by omega)]; exact pv_succ t k
        generalize pv t (min k n) = o at *
        go_wp2_with fail
        go_roundw
        case rel => exact ⟨k + 1, by omega, by rw [he.out], by simp, by first | rfl | trivial⟩
        case measure => simp [intOf]; omega
      · have hst : ¬ (st t k : Int) < a := by have := st_mono t (show n ≤ k by omega); omega
        have he : Hid (pv t (min (k + 1) n) = pv t (min k n)) := by show pv t (min (k + 1) n) = _; rw [Nat.min_eq_right (by omega), Nat.min_eq_right (by omega)]
        generalize pv t (min k n) = o at *
        go_wp2_with fail
        go_roundw
        case rel => exact ⟨k + 1, by omega, by rw [he.out], by simp, by first | rfl | trivial⟩
        case measure => simp [intOf]; omega
    · have f1 : ¬ (k : Int) < num t + 1 := by omega
      have he : Hid (pv t (min k n) = pv t n) := by show pv t (min k n) = _; rw [Nat.min_eq_right (by omega)]
      generalize pv t (min k n) = o at *
      go_wp2_with fail
      go_ret2
      exact ⟨by rw [← he.out]; rfl, B1⟩
end Go.Proofs.Ytjmcfdmonckhmaa
