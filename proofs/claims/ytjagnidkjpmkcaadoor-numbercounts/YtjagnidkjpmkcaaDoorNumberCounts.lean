/-
  What is proved here: for every list of paragraphs and one more NumberCounts answers true: its level's count is one more, those of lesser levels are as they were, those of higher ones 0, and its label is that count's. Its conditions: the listed tables lie as the program's own text lays them.
-/
import Derived.Test.YtjagnidkjpmkcaaDoorMore
namespace Go.Proofs.YtjagnidkjpmkcaaDoor.numberCounts
open Go.ChangeShapes Go.WideShapes Go.ChangeAt Go.RowKit

theorem refE_of {ls : List En} (h1 : ls.length ≤ 3999) (h2 : ∀ y ∈ ls, okE y = true) : refE ls = 0 := by
  have h3 : ls.all okE = true := List.all_eq_true.2 h2
  unfold refE
  rw [if_neg (by omega), h3]
  rfl

theorem en_one (W : World) (x y : Int) : EnAt (W.alloc (.cells #[.int .i64 x, .int .i64 y] 37)) (.slice (some ⟨W.heap.size, 0, none⟩) 1 1) [(x, y)] := by
  refine ⟨⟨_, _, rfl, .inr ⟨W.heap.size, 0, rfl, by simp, fun i hi => ?_⟩⟩, by simp⟩
  have hi6 : i < 1 := hi
  rw [Lib.cell_of_heap (heap_new W _), Lib.cell_of_heap (heap_new W _), Nat.zero_add]
  match i, hi6 with
  | 0, _ => exact ⟨rfl, rfl⟩

theorem in_four {W : World} {v : Value} {L : List En} {q : Nat} (h : InAt W v (four L q)) : ∃ b o cap, v = .slice (some ⟨b, o, none⟩) 4 cap ∧ b < W.heap.size ∧ ∀ k, k < 4 → W.cell? ⟨b, o + k, none⟩ = some (.int .i64 (cnt L q k)) := by
  obtain ⟨a, cap, rfl, h2⟩ := h.ex
  rcases h2 with h2 | ⟨b, o, rfl, hb, hc⟩
  · cases h2
  · refine ⟨b, o, cap, rfl, hb, fun k hk => ?_⟩
    have := hc k hk
    match k, hk with
    | 0, _ => exact this
    | 1, _ => exact this
    | 2, _ => exact this
    | 3, _ => exact this

theorem tx_lab {W : World} {v : Value} {L : List En} (h : TxAt W v (labs L)) {i : Nat} (hi : i < L.length) : ∃ b o cap, v = .slice (some ⟨b, o, none⟩) L.length cap ∧ b < W.heap.size ∧ W.cell? ⟨b, o + i, none⟩ = some (.string ⟨(lab L i).toArray⟩) := by
  obtain ⟨a, cap, rfl, h2⟩ := h.ex
  rcases h2 with h2 | ⟨b, o, rfl, hbl, hc⟩
  · have : (labs L).length = 0 := by rw [h2]; rfl
    rw [labs_length] at this; omega
  · have hi' : i < (labs L).length := by rw [labs_length]; exact hi
    have := hc i hi'
    have e : (labs L)[i] = lab L i := by
      have := labs_at L hi
      rw [List.getElem?_eq_getElem hi'] at this
      exact Option.some.inj this
    rw [e] at this
    exact ⟨b, o, cap, by rw [labs_length], hbl, this⟩

theorem lab_last (ls : List En) (q lv : Nat) : lab (ls ++ [((q : Int) + 1, (lv : Int))]) ls.length = labelN lv (cnt (ls ++ [((q : Int) + 1, (lv : Int))]) q lv) := by
  have hi : ls.length < (ls ++ [((q : Int) + 1, (lv : Int))]).length := by simp
  have h1 : (ls ++ [((q : Int) + 1, (lv : Int))])[ls.length] = ((q : Int) + 1, (lv : Int)) := by simp
  have := lab_of (ls ++ [((q : Int) + 1, (lv : Int))]) hi (q := q) (lv := lv) (by rw [h1]) (by rw [h1])
  rw [this]
  rw [List.take_of_length_le (by simp)]

theorem cnt_last (ls : List En) (q lv k : Nat) : cnt (ls ++ [((q : Int) + 1, (lv : Int))]) q k = if k < lv then cnt ls q k else if k = lv then cnt ls q k + 1 else 0 := by
  rw [cnt_snoc, if_pos rfl]
  unfold up
  rw [Int.toNat_natCast]

set_option maxHeartbeats 1000000 in
set_option maxRecDepth 100000 in
theorem walk {w : World} (a : Option Addr) (cap : Nat) (ls : List En) (hlen : ls.length ≤ 9223372036854775807) (_hcap : ls.length ≤ cap) (hS0 : ls.length ≤ 140737488355328 → EnAt w (.slice a ls.length cap) ls) (x y : Int) (ht : Tab w) :
    Calls Tryd.prog 6 #[.slice a ls.length cap, .agg #[.int .i64 x, .int .i64 y]] w fun e w' => e = .returned (.bool true) ∧ Below w.heap.size w w' := by
  obtain ⟨w0, hw0⟩ : ∃ w0, w.alloc (.cells #[.int .i64 x, .int .i64 y] 37) = w0 := ⟨_, rfl⟩
  have B0 : Below w.heap.size w w0 := by rw [← hw0]; exact (Below.refl _ w).alloc (Nat.le_refl _) _
  have hX : w0.heap[w.heap.size]? = some (.cells #[.int .i64 x, .int .i64 y] 37 (0, 0)) := by rw [← hw0]; exact heap_new w _
  have hXl : w.heap.size < w0.heap.size := (Array.getElem?_eq_some_iff.1 hX).1
  have haw := awake_yes w0 (ht.below B0)
  by_cases h100 : 100 < ls.length
  · go_enter Tryd.func6, Tryd.ntmps6
    go_wp2_with (go_at_call 19; refine haw.mono ?_; rintro e w1 ⟨rfl, hb1⟩)
    go_ret
    exact ⟨rfl, B0.trans (hb1.mono B0.size)⟩
  have hS := hS0 (by omega)
  have hxc : ∀ w1, Below w0.heap.size w0 w1 → w1.cell? ⟨w.heap.size, 0, none⟩ = some (.int .i64 x) ∧ w1.cell? ⟨w.heap.size, 1, none⟩ = some (.int .i64 y) := fun w1 q => by
    rw [Lib.cell_of_heap ((q.block _ hXl).trans hX), Lib.cell_of_heap ((q.block _ hXl).trans hX)]
    exact ⟨rfl, rfl⟩
  have hmy := fun W hW => may_any (.slice a ls.length cap) ls W hW
  have hm1 := fun W => may_any _ [(x, y)] _ (en_one W x y)
  have h100i : ¬ ((100 : Int) < ls.length) := by omega
  have hd100 : decide ((100 : Int) < ls.length) = false := decide_eq_false h100i
  cases hall : ls.all okE
  · rw [hall] at hmy
    go_enter Tryd.func6, Tryd.ntmps6
    go_wp2_with (first | (go_at_call 19; refine haw.mono ?_; rintro e w1 ⟨rfl, hb1⟩) | (go_at_call 20; refine (hmy _ ((hS.below B0).below (by assumption))).mono ?_; rintro e w2 ⟨rfl, rfl⟩))
    go_ret
    exact ⟨rfl, B0.trans (hb1.mono B0.size)⟩
  rw [hall] at hmy
  rw [show [(x, y)].all okE = okE (x, y) by simp] at hm1
  cases hxy : okE (x, y)
  · rw [hxy] at hm1
    go_enter Tryd.func6, Tryd.ntmps6
    go_wp2_with (go_at_call 19; refine haw.mono ?_; rintro e w1 ⟨rfl, hb1⟩; obtain ⟨x0, x1⟩ := hxc w1 hb1)
    refine (hmy _ ((hS.below B0).below hb1)).mono ?_
    rintro e w2 ⟨rfl, rfl⟩
    go_wp2_with fail
    refine (hm1 _).mono ?_
    rintro e w3 ⟨rfl, rfl⟩
    go_wp2_with fail
    go_ret
    have B1 := B0.trans (hb1.mono B0.size)
    exact ⟨rfl, B1.alloc B1.size _⟩
  rw [hxy] at hm1
  have hok := (okE_iff _).1 hxy
  by_cases hx0 : x = 0
  · subst hx0
    go_enter Tryd.func6, Tryd.ntmps6
    go_wp2_with (go_at_call 19; refine haw.mono ?_; rintro e w1 ⟨rfl, hb1⟩; obtain ⟨x0, x1⟩ := hxc w1 hb1)
    refine (hmy _ ((hS.below B0).below hb1)).mono ?_
    rintro e w2 ⟨rfl, rfl⟩
    go_wp2_with fail
    refine (hm1 _).mono ?_
    rintro e w3 ⟨rfl, rfl⟩
    obtain ⟨y0, y1⟩ := hxc _ (hb1.alloc hb1.size (.cells #[.int .i64 0, .int .i64 y] 37))
    go_wp2_with fail
    go_ret
    have B1 := B0.trans (hb1.mono B0.size)
    exact ⟨rfl, B1.alloc B1.size _⟩
  obtain ⟨q, hq⟩ : ∃ q : Nat, x = (q : Int) + 1 := ⟨(x - 1).toNat, by omega⟩
  obtain ⟨lv, hlv⟩ : ∃ lv : Nat, y = lv := ⟨y.toNat, by omega⟩
  simp only at hok
  have hq8 : q < 8 := by omega
  have hlv4 : lv < 4 := by omega
  subst hq hlv
  have hx0' : ¬ ((q : Int) + 1 = 0) := hx0
  have hx0b : ((q : Int) + 1 == 0) = false := by simp; omega
  obtain ⟨n, hn⟩ : ∃ n, n = ls.length := ⟨_, rfl⟩
  rw [← hn] at h100 h100i hd100 hmy ⊢
  have HN : Hid (n = ls.length) := hn
  have HS : Hid (EnAt w (.slice a n cap) ls) := by rw [hn]; exact hS
  have HALL : Hid (ls.all okE = true) := hall
  have HXY : Hid (okE ((q : Int) + 1, (lv : Int)) = true) := hxy
  clear hn hS hS0 hall hxy hok hlen
  go_enter Tryd.func6, Tryd.ntmps6
  go_wp2_with (go_at_call 19; refine haw.mono ?_; rintro e w1 ⟨rfl, hb1⟩; obtain ⟨x0, x1⟩ := hxc w1 hb1)
  refine (hmy _ ((HS.out.below B0).below hb1)).mono ?_
  rintro e w2 ⟨rfl, rfl⟩
  go_wp2_with fail
  refine (hm1 _).mono ?_
  rintro e w3 ⟨rfl, rfl⟩
  obtain ⟨y0, y1⟩ := hxc _ (hb1.alloc hb1.size (.cells #[.int .i64 ((q : Int) + 1), .int .i64 lv] 37))
  go_wp2_with fail
  have B1 := B0.trans (hb1.mono B0.size)
  have hbA := hb1.alloc hb1.size (.cells #[.int .i64 ((q : Int) + 1), .int .i64 lv] 37)
  have BA := B1.alloc B1.size (.cells #[.int .i64 ((q : Int) + 1), .int .i64 lv] 37)
  have hXA := (hbA.block _ hXl).trans hX
  refine more_region _ (fun _ _ _ _ _ h => h) _ _ a n cap w.heap.size _ _ ls HN.out (by omega) _ (HS.out.below BA) hXA ?_
  intro s38 s40 s42 v6 w5 r6 b6
  unfold fr6
  have B5 := BA.trans (b6.mono BA.size)
  have HX5 : Hid (w5.heap[w.heap.size]? = some (.cells #[.int .i64 ((q : Int) + 1), .int .i64 lv] 37 (0, 0))) := (b6.block _ (by have := hbA.size; omega)).trans hXA
  have hM : EnAt w5 v6 (ls ++ [((q : Int) + 1, (lv : Int))]) := en_of_row (by rw [List.length_append, List.length_singleton, ← HN.out]; exact r6) (by rw [List.length_append, List.length_singleton, ← HN.out]; omega)
  have HRE : Hid (refE ls = 0) := refE_of (by have := HN.out; omega) (fun y hy => List.all_eq_true.1 HALL.out y hy)
  have HRM : Hid (refE (ls ++ [((q : Int) + 1, (lv : Int))]) = 0) := refE_of (by rw [List.length_append, List.length_singleton, ← HN.out]; omega) (fun y hy => by
    rcases List.mem_append.1 hy with hy | hy
    · exact List.all_eq_true.1 HALL.out y hy
    · rw [List.mem_singleton.1 hy]; exact HXY.out)
  clear hXA b6 hbA BA B1 hb1 haw hmy hm1 hxc x0 x1 y0 y1 r6
  have HX : Hid (∀ W, Below w5.heap.size w5 W → W.cell? ⟨w.heap.size, 0, none⟩ = some (.int .i64 ((q : Int) + 1)) ∧ W.cell? ⟨w.heap.size, 1, none⟩ = some (.int .i64 lv)) := fun W h => by
    have hl : w.heap.size < w5.heap.size := (Array.getElem?_eq_some_iff.1 HX5.out).1
    rw [Lib.cell_of_heap ((h.block _ hl).trans HX5.out), Lib.cell_of_heap ((h.block _ hl).trans HX5.out)]
    exact ⟨rfl, rfl⟩
  obtain ⟨x0, x1⟩ := HX.out w5 (Below.refl _ _)
  obtain ⟨va, vc, rfl⟩ : ∃ a c, v6 = .slice a (n + 1) c := by
    obtain ⟨a', c', e, _⟩ := hM.ex
    exact ⟨a', c', by rw [e, List.length_append, List.length_singleton, ← HN.out]⟩
  have hC1 := Counts_yes (.slice a n cap) ls q hq8 w5 (HS.out.below B5) HRE.out
  go_wp2_with fail
  refine hC1.mono ?_
  rintro e w6 ⟨v7, rfl, r7, q6⟩
  have I7 : InAt w6 v7 (four ls q) := InAt.of_row r7 (by simp [four])
  clear hC1 r7 x0 x1
  obtain ⟨x0, x1⟩ := HX.out w6 q6
  have hC2 := Counts_yes _ _ q hq8 w6 (hM.below q6) HRM.out
  go_wp2_with fail
  refine hC2.mono ?_
  rintro e w7 ⟨v9, rfl, r9, q7⟩
  have C7 := q6.trans (q7.mono q6.size)
  have I9 : InAt w7 v9 (four (ls ++ [((q : Int) + 1, (lv : Int))]) q) := InAt.of_row r9 (by simp [four])
  have I7' := I7.below q7
  clear hC2 r9 x0 x1 I7
  have B7 := B5.trans (C7.mono B5.size)
  have hL := Labels_yes _ _ w7 (hM.below C7) HRM.out (ht.below B7)
  go_wp2_with fail
  refine hL.mono ?_
  rintro e w8 ⟨v11, rfl, r11, q8⟩
  have C8 := C7.trans (q8.mono C7.size)
  have B8 := B7.trans (q8.mono B7.size)
  have T11 : TxAt w8 v11 (labs (ls ++ [((q : Int) + 1, (lv : Int))])) := TxAt.of_row (by rw [labs_length]; exact r11) (by rw [labs_length, List.length_append, List.length_singleton, ← HN.out]; omega)
  obtain ⟨b7, o7, c7, rfl, l7, d7⟩ := in_four (I7'.below q8)
  obtain ⟨b9, o9, c9, rfl, l9, d9⟩ := in_four (I9.below q8)
  obtain ⟨b11, o11, c11, rfl, l11, d11⟩ := tx_lab T11 (i := ls.length) (by simp)
  rw [lab_last, ← HN.out] at d11
  have HD7 : Hid (∀ k, k < 4 → w8.cell? ⟨b7, o7 + k, none⟩ = some (.int .i64 (cnt ls q k))) := d7
  have HD9 : Hid (∀ k, k < 4 → w8.cell? ⟨b9, o9 + k, none⟩ = some (.int .i64 (cnt (ls ++ [((q : Int) + 1, (lv : Int))]) q k))) := d9
  have hle : cnt (ls ++ [((q : Int) + 1, (lv : Int))]) q lv ≤ n + 1 := by have := cnt_le q (ls ++ [((q : Int) + 1, (lv : Int))]) lv; rw [List.length_append, List.length_singleton, ← HN.out] at this; exact this
  have hcv := cnt_last ls q lv
  rw [List.length_append, List.length_singleton, ← HN.out]
  have HCV : Hid (∀ k, cnt (ls ++ [((q : Int) + 1, (lv : Int))]) q k = if k < lv then cnt ls q k else if k = lv then cnt ls q k + 1 else 0) := hcv
  clear hcv d7 d9 T11 I7' I9 hL r11 q8 q7 q6 hM
  obtain ⟨x0, x1⟩ := HX.out w8 C8
  generalize hG : cnt (ls ++ [((q : Int) + 1, (lv : Int))]) q = cn at *
  generalize hH : cnt ls q = co at *
  clear hG hH
  have hM2 : lv ≤ 3 := by omega
  go_wp2_with fail
  go_loopw [13] (fun i wr => ∃ k : Nat, k ≤ 4 ∧ i = .int .i64 k ∧ wr = w8) (fun i _ => 4 - (RowKit.intOf i).toNat)
  case atStart => exact ⟨0, by omega, rfl, rfl⟩
  case round =>
    obtain ⟨k, hk, rfl, rfl⟩ := hrel
    by_cases hlt : k < 4
    · have d7 := HD7.out k hlt
      have d9 := HD9.out k hlt
      have hkc := HCV.out k
      have hki : (k : Int) < 4 := by omega
      by_cases h1 : k < lv
      · rw [if_pos h1] at hkc
        rw [hkc] at d9
        clear hkc d11 hle
        have h1a : ¬ ((k : Int) = lv) := by omega
        have h1b : ((k : Int) == (lv : Int)) = false := by simp; omega
        have h1c : ¬ ((lv : Int) < k) := by omega
        generalize co k = z at d7 d9
        go_wp2_with fail
        go_roundw
        case rel => exact ⟨k + 1, by omega, by simp, trivial⟩
        case measure => simp [RowKit.intOf]; omega
      · rw [if_neg h1] at hkc
        by_cases h2 : k = lv
        · subst h2
          rw [if_pos rfl] at hkc
          rw [hkc] at d9
          have hz : co k ≤ 100000 := by omega
          clear hkc d11 hle
          have h1c : ¬ ((k : Int) < k) := by omega
          generalize co k = z at d7 d9 hz
          go_wp2_with fail
          go_roundw
          case rel => exact ⟨k + 1, by omega, by simp, trivial⟩
          case measure => simp [RowKit.intOf]; omega
        · rw [if_neg h2] at hkc
          rw [hkc] at d9
          clear hkc d11 hle
          have h1a : ¬ ((k : Int) = lv) := by omega
          have h1b : ((k : Int) == (lv : Int)) = false := by simp; omega
          have h1c : (lv : Int) < k := by omega
          generalize co k = z at d7
          go_wp2_with fail
          go_roundw
          case rel => exact ⟨k + 1, by omega, by simp, trivial⟩
          case measure => simp [RowKit.intOf]; omega
    · obtain rfl : k = 4 := by omega
      have d9 := HD9.out lv hlv4
      have hn1 : 1 ≤ cn lv := by have := HCV.out lv; rw [if_neg (by omega), if_pos rfl] at this; omega
      have hlab := Label_yes lv (cn lv) (by omega) hn1 (by omega) wr.drew ⟨(ht.below B8).tab, (ht.below B8).lt⟩
      generalize cn lv = z at *
      have hlvi : (lv : Int) < 4 := by omega
      have hkp : ∀ w', Below wr.drew.heap.size wr.drew w' → w'.cell? ⟨b11, o11 + n, none⟩ = some (.string ⟨(labelN lv z).toArray⟩) := fun w' h => (h.cell (p := ⟨b11, o11 + n, none⟩) l11).trans d11
      have hfb : ∀ w', Below wr.drew.heap.size wr.drew w' → Below w.heap.size w w' := fun w' h => B8.trans (Below.mono (B := wr.heap.size) ⟨h.os, h.tape, h.output, h.size, h.block⟩ B8.size)
      generalize (⟨(labelN lv z).toArray⟩ : ByteArray) = T at *
      go_wp2_with fail
      go_region_with (go_at_call 9; refine hlab.mono ?_; rintro e w9 ⟨rfl, hb9⟩; have d12 := hkp w9 hb9)
      all_goals
        have B9 := hfb w9 hb9
        clear hlab hkp hfb hb9
        go_wp2_with fail
        go_ret
        exact ⟨rfl, B9⟩

set_option maxRecDepth 100000 in
theorem lifted (os : Os) (started : os.Started) (H : Type) (enc : TypeId × Value → H) :
    ReturnsInHanded {} Tryd.checked os 6 .any (fun w args => (Rows.numberCountsSpec.pre enc Tryd.prog Tryd.f6 Rows.numberCountsRow.domain false w args ∧ laidMetH Tryd.prog laidL w) ∧ sizedMet enc Tryd.prog Tryd.f6 (OpenSpec.ofChange Rows.numberCountsSpec) false w args)
      (Rows.numberCountsSpec.post enc Tryd.prog Tryd.f6 false true false false) := by
  refine returnsInHanded_of_change_and (C := Tryd.checked) (X := fun w _ => laidMetH Tryd.prog laidL w) (fun _ _ _ hh h => h.of_heap hh) own started (by kernel_rfl) Tryd.func6
    (ChangeSpec.witness_shaped (enc := enc) (C := Tryd.checked) (os := os) (X := fun w _ => laidMetH Tryd.prog laidL w) false (World.laidAll Tryd.prog os laidL) #[.slice none 0 0, .agg #[.int .i64 0, .int .i64 0]] 8 (World.laidAll_os _ _ _)
      (World.shaped_of_ZipB (by kernel_rfl) (by kernel_rfl)) (by kernel_rfl) (by kernel_rfl) (by kernel_rfl)
      (by rw [MakeChecks.laidMetH_plain _ _ _ (by kernel_rfl)]; exact laidMet_laidAll _ (by kernel_rfl) (by kernel_rfl))) ?_
  intro W base args ds gs before hval0 hW hcnd _ hL _
  have hval : ∀ (j : Nat) t v, Tryd.f6.params[j]? = some t → args[j]? = some v → Value.okWide Tryd.prog W .any base t v := hval0
  have hW' := hW
  obtain ⟨p, q, hA0, hV, rfl, hfz, hnd⟩ := hW
  have hA : DataW.TrodAll enc Tryd.prog W 0 (fun _ => true) true Tryd.f6.params.toList args.toList ds p := hA0
  rw [Tryd.params6] at hA hval
  obtain ⟨v0, vs0, d0, ds0, p0, q0, hargs, rfl, rfl, h0, r0⟩ := trodAll_cons hA
  obtain ⟨v1, vs1, d1, ds1, p1, q1, rfl, rfl, rfl, h1, r1⟩ := trodAll_cons r0
  obtain ⟨rfl, rfl, rfl⟩ := trodAll_nil r1
  obtain rfl : args = #[v0, v1] := by cases args; simp_all
  obtain ⟨rfl, rfl⟩ := trodVars_none hV
  obtain ⟨x0, len0, cap0, rfl⟩ := okWide_slice Tryd.underlying28 (hval 0 28 v0 rfl rfl)
  have k0 := h0
  have lt0 : ∀ x ∈ p0, x.block < W.heap.size := by obtain ⟨m, hm⟩ := k0; exact DataW.trod_lt m _ _ _ hm
  obtain ⟨ls0, rfl, hl0, hc0, hS0⟩ := entries_in h0
  have k1 := h1
  have lt1 : ∀ x ∈ p1, x.block < W.heap.size := by obtain ⟨m, hm⟩ := k1; exact DataW.trod_lt m _ _ _ hm
  obtain ⟨a1, b1, rfl⟩ := open_entry (hval 1 37 v1 rfl rfl) h1
  clear hA0 hval0
  refine (walk x0 cap0 ls0 hl0 hc0 hS0 a1 b1 (tab_of hL)).mono fun e W' ⟨he, bel⟩ => ?_
  subst he
  exact ⟨_, rfl, _, _, _, [], _, [], hW', trodAll_mk1 (shut_bool Tryd.underlying4 _), (trodAll_cons_mk (Below.trod laidOut (by kernel_rfl) (of_decide_eq_true (by kernel_rfl)) k0 bel lt0) (trodAll_cons_mk (Below.trod laidOut (by kernel_rfl) (of_decide_eq_true (by kernel_rfl)) k1 bel lt1) trodAll_mk0)), rfl, bel.frame _, fun h => by cases h⟩

theorem over : Rows.NumberCountsSaid :=
  OpenClaim.holds_of_wide 6 Tryd.f6 rfl rfl rfl rfl rfl rfl rfl ⟨rfl, rfl, rfl, rfl, rfl⟩ rfl rfl rfl rfl rfl (by kernel_rfl) Tryd.func6 (by kernel_rfl)
    (of_decide_eq_true (by kernel_rfl)) (by unfold Func.isWrapper; first | (rw [if_pos (by decide +kernel)]; kernel_rfl) | (rw [if_neg (by decide +kernel)]; exact ⟨rfl, rfl⟩))
    (fun os started H enc _ => lifted os started H enc)

end Go.Proofs.YtjagnidkjpmkcaaDoor.numberCounts
namespace Go.Proofs.YtjagnidkjpmkcaaDoor

theorem numberCounts_holds : Rows.NumberCountsCardSaid :=
  Claim7.holds_tied_plain_at .later [] [.data, .data, .data] true (true, "c601c4f8caee564fb420438873ca0a117589b02a3eb6d476e76363b032b0e9b9") false numberCounts.over (fun _ h => by cases h) (by kernel_rfl) (fun _ h => by cases h) numberCounts_row_tie rfl ⟨rfl, rfl⟩ (by kernel_rfl) rfl
    (fun f fn hf hfn => by
      obtain rfl : f = 6 := Option.some.inj ((show Tryd.prog.funcNamed "quire/quirelaw04.NumberCounts" = some 6 by kernel_rfl).symm.trans hf) |>.symm
      obtain rfl : fn = Tryd.f6 := (Option.some.inj (Tryd.func6.symm.trans hfn)).symm
      exact ⟨by kernel_rfl, fun j t ht => by
        rw [Tryd.params6] at ht
        have hm : t ∈ [28, 37] := by simpa using Array.mem_of_getElem? ht
        have hall : ([28, 37].all fun u => !Tryd.prog.wantsStandIn u) = true := by kernel_rfl
        exact (show Tryd.prog.wantsStandIn t = false by simpa using List.all_eq_true.1 hall t hm)⟩)
    (by kernel_rfl)

end Go.Proofs.YtjagnidkjpmkcaaDoor
