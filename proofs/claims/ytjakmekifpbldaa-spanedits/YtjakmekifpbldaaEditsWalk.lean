/-
  What is proved here: SpanEdits' walk.
-/
import Derived.Test.YtjakmekifpbldaaWalkR
namespace Go.Proofs.Ytjakmekifpbldaa.spanEdits
open Go.RowKit Go.Shelf

/-- One call, in memory. -/
def ActAt (w : World) (b o : Nat) : Prop := ∃ (kd p n : Int) (c : Ch), w.cell? ⟨b, o, none⟩ = some (.int .i64 kd) ∧ w.cell? ⟨b, o + 1, none⟩ = some (.int .i64 p) ∧ w.cell? ⟨b, o + 2, none⟩ = some (.int .i64 n) ∧
  w.cell? ⟨b, o + 3, none⟩ = some (.int .i64 c.s) ∧ w.cell? ⟨b, o + 4, none⟩ = some (.int .i64 c.t) ∧ w.cell? ⟨b, o + 5, none⟩ = some (.int .i64 c.k) ∧ (-9223372036854775808 ≤ p ∧ p ≤ 9223372036854775807)
/-- The calls, in memory. -/
def IsActs (w : World) (a : Option Addr) (len : Nat) : Prop := len = 0 ∨ ∃ b off, a = some ⟨b, off, none⟩ ∧ b < w.heap.size ∧ ∀ i, i < len → ActAt w b (off + i * 6)

/-- The state between two edits. -/
def St (w : World) (t k : Nat) (W : World) : Prop := ∃ sv L m, LooksAt t sv L m W ∧ Fine L m ∧ L.length ≤ k ∧ Below w.heap.size w W

theorem tot_mem (R : List Sp) {x : Sp} (h : x ∈ R) : x.1 ≤ tot R := by
  induction R with
  | nil => cases h
  | cons q r ih =>
    rcases List.mem_cons.1 h with rfl | h
    · simp [tot]
    · have := ih h; simp [tot]; omega

theorem box6 {w1 w2 : World} {B : Nat} {x0 x1 x2 x3 x4 x5 : Value} (h : w1.heap[B]? = some (.cells #[x0, x1, x2, x3, x4, x5] 36 (0, 0))) (hb : Below w1.heap.size w1 w2) :
    w2.cell? ⟨B, 0, none⟩ = some x0 ∧ w2.cell? ⟨B, 1, none⟩ = some x1 ∧ w2.cell? ⟨B, 2, none⟩ = some x2 ∧ w2.cell? ⟨B, 3, none⟩ = some x3 ∧ w2.cell? ⟨B, 4, none⟩ = some x4 ∧ w2.cell? ⟨B, 5, none⟩ = some x5 := by
  have hx := (hb.block B (Array.getElem?_eq_some_iff.1 h).1).trans h
  refine ⟨?_, ?_, ?_, ?_, ?_, ?_⟩ <;> (rw [Lib.cell_of_heap hx]; rfl)
theorem box6_keep {w1 w2 : World} {B : Nat} {o : Obj} (h : w1.heap[B]? = some o) (hb : Below w1.heap.size w1 w2) : w2.heap[B]? = some o := (hb.block B (Array.getElem?_eq_some_iff.1 h).1).trans h

set_option maxHeartbeats 8000000 in
set_option maxRecDepth 100000 in
theorem walk (n : Int) (a : Option Addr) (len cap : Nat) (kd p q : Int) (c : Ch) (w : World) (hlen : len ≤ 9223372036854775807) (hp : -9223372036854775808 ≤ p ∧ p ≤ 9223372036854775807) (hact : IsActs w a len) :
    Calls Try.prog 6 #[.int .i64 n, .slice a len cap, .agg #[.int .i64 kd, .int .i64 p, .int .i64 q, .int .i64 c.s, .int .i64 c.t, .int .i64 c.k]] w fun e w' => e = .returned (.bool true) ∧ Below w.heap.size w w' := by
  have hmay := may_any c
  unfold chV at hmay
  have hB0 := (Below.refl w.heap.size w).alloc (Nat.le_refl _) (Obj.cells #[.int .i64 kd, .int .i64 p, .int .i64 q, .int .i64 c.s, .int .i64 c.t, .int .i64 c.k] 36)
  have hX0 := heap_new w (Obj.cells #[.int .i64 kd, .int .i64 p, .int .i64 q, .int .i64 c.s, .int .i64 c.t, .int .i64 c.k] 36)
  by_cases h1 : n < 0
  · go_enter Try.func6, Try.ntmps6
    go_wp2_with fail
    refine (awake_any _).mono ?_
    rintro e w1 ⟨rfl, B1⟩
    have C1 := hB0.trans (B1.mono hB0.size)
    obtain ⟨y0, y1, y2, y3, y4, y5⟩ := box6 hX0 B1
    go_wp2_with fail
    go_ret
    exact ⟨rfl, C1⟩
  by_cases h2 : 300 < n
  · go_enter Try.func6, Try.ntmps6
    go_wp2_with fail
    refine (awake_any _).mono ?_
    rintro e w1 ⟨rfl, B1⟩
    have C1 := hB0.trans (B1.mono hB0.size)
    obtain ⟨y0, y1, y2, y3, y4, y5⟩ := box6 hX0 B1
    go_wp2_with fail
    go_ret
    exact ⟨rfl, C1⟩
  by_cases h3 : 40 < len
  · go_enter Try.func6, Try.ntmps6
    go_wp2_with fail
    refine (awake_any _).mono ?_
    rintro e w1 ⟨rfl, B1⟩
    have C1 := hB0.trans (B1.mono hB0.size)
    obtain ⟨y0, y1, y2, y3, y4, y5⟩ := box6 hX0 B1
    go_wp2_with fail
    go_ret
    exact ⟨rfl, C1⟩
  cases hc : mayC c
  · rw [hc] at hmay
    go_enter Try.func6, Try.ntmps6
    go_wp2_with fail
    refine (awake_any _).mono ?_
    rintro e w1 ⟨rfl, B1⟩
    have C1 := hB0.trans (B1.mono hB0.size)
    obtain ⟨y0, y1, y2, y3, y4, y5⟩ := box6 hX0 B1
    go_wp2_with (go_at_call 10; refine (hmay _).mono ?_; rintro e w2 ⟨rfl, B2⟩; have C2 := C1.trans (B2.mono C1.size); obtain ⟨z0, z1, z2, z3, z4, z5⟩ := box6 (box6_keep hX0 B1) B2)
    go_ret
    exact ⟨rfl, C2⟩
  rw [hc] at hmay
  by_cases h4 : q < 0
  · go_enter Try.func6, Try.ntmps6
    go_wp2_with fail
    refine (awake_any _).mono ?_
    rintro e w1 ⟨rfl, B1⟩
    have C1 := hB0.trans (B1.mono hB0.size)
    obtain ⟨y0, y1, y2, y3, y4, y5⟩ := box6 hX0 B1
    go_wp2_with (go_at_call 10; refine (hmay _).mono ?_; rintro e w2 ⟨rfl, B2⟩; have C2 := C1.trans (B2.mono C1.size); obtain ⟨z0, z1, z2, z3, z4, z5⟩ := box6 (box6_keep hX0 B1) B2)
    go_ret
    exact ⟨rfl, C2⟩
  by_cases h5 : 50 < q
  · go_enter Try.func6, Try.ntmps6
    go_wp2_with fail
    refine (awake_any _).mono ?_
    rintro e w1 ⟨rfl, B1⟩
    have C1 := hB0.trans (B1.mono hB0.size)
    obtain ⟨y0, y1, y2, y3, y4, y5⟩ := box6 hX0 B1
    go_wp2_with (go_at_call 10; refine (hmay _).mono ?_; rintro e w2 ⟨rfl, B2⟩; have C2 := C1.trans (B2.mono C1.size); obtain ⟨z0, z1, z2, z3, z4, z5⟩ := box6 (box6_keep hX0 B1) B2)
    go_ret
    exact ⟨rfl, C2⟩
  obtain ⟨nn, rfl⟩ : ∃ nn : Nat, n = nn := ⟨n.toNat, by omega⟩
  have hnn : nn ≤ 300 := by omega
  have hnew : ∀ W, Calls Try.prog 8 #[.int .i64 nn, .agg #[.int .i64 10, .int .i64 0, .int .i64 0]] W fun e w' => ∃ t sv, e = .returned (.tuple #[.pointer (some ⟨t, 0, none⟩), .int .i64 0]) ∧ W.heap.size ≤ t ∧ LooksAt t sv (List.replicate nn one) one w' ∧ Below W.heap.size W w' := new_ok nn one (by decide) (by omega)
  go_enter Try.func6, Try.ntmps6
  go_wp2_with fail
  refine (awake_any _).mono ?_
  rintro e w1 ⟨rfl, B1⟩
  have C1 := hB0.trans (B1.mono hB0.size)
  obtain ⟨y0, y1, y2, y3, y4, y5⟩ := box6 hX0 B1
  go_wp2_with (go_at_call 10; refine (hmay _).mono ?_; rintro e w2 ⟨rfl, B2⟩; have C2 := C1.trans (B2.mono C1.size); obtain ⟨z0, z1, z2, z3, z4, z5⟩ := box6 (box6_keep hX0 B1) B2)
  refine (one_any _).mono ?_
  rintro e w3 ⟨rfl, B3⟩
  have C3 := C2.trans (B3.mono C2.size)
  go_wp2_with fail
  refine (hnew w3).mono ?_
  rintro e w4 ⟨t, sv0, rfl, htl, hL0, B4⟩
  have C4 := C3.trans (B4.mono C3.size)
  have htw : w.heap.size ≤ t := Nat.le_trans C3.size htl
  have hX4 : w4.heap[w.heap.size]? = some (Obj.cells #[.int .i64 kd, .int .i64 p, .int .i64 q, .int .i64 c.s, .int .i64 c.t, .int .i64 c.k] 36) := box6_keep (box6_keep (box6_keep (box6_keep hX0 B1) B2) B3) B4
  have hS4 : St w t 300 w4 := ⟨sv0, _, one, hL0, ⟨fun d hd => by rw [(List.mem_replicate.1 hd).2]; decide, by decide⟩, by simpa using hnn, C4⟩
  have hxt : w.heap.size ≠ t := fun he => by
    have hx3 := box6_keep (box6_keep (box6_keep hX0 B1) B2) B3
    have := (Array.getElem?_eq_some_iff.1 hx3).1
    omega
  clear hL0
  go_wp2_with fail
  go_loopw [10] (fun i wr => ∃ k : Nat, k ≤ len ∧ i = .int .i64 k ∧ St w t (300 + 50 * k) wr ∧ Below w.heap.size w wr ∧ wr.heap[w.heap.size]? = some (Obj.cells #[.int .i64 kd, .int .i64 p, .int .i64 q, .int .i64 c.s, .int .i64 c.t, .int .i64 c.k] 36)) (fun i _ => len - (intOf i).toNat)
  case atStart => exact ⟨0, by omega, rfl, hS4, C4, hX4⟩
  case round =>
    obtain ⟨k, hk, rfl, hSk, hbk, hXk⟩ := hrel
    by_cases hlt : k < len
    · rcases hact with hz | ⟨b, off, rfl, hbl, hacts⟩
      · omega
      · obtain ⟨kd1, p1, n1, c1, e0, e1, e2, e3, e4, e5, hpb⟩ := hacts k hlt
        have f0 : wr.cell? _ = _ := (hbk.cell hbl).trans e0
        have f1 : wr.cell? _ = _ := (hbk.cell hbl).trans e1
        have f2 : wr.cell? _ = _ := (hbk.cell hbl).trans e2
        have f3 : wr.cell? _ = _ := (hbk.cell hbl).trans e3
        have f4 : wr.cell? _ = _ := (hbk.cell hbl).trans e4
        have f5 : wr.cell? _ = _ := (hbk.cell hbl).trans e5
        have hA := (Below.refl wr.heap.size wr).alloc (Nat.le_refl _) (Obj.cells #[.int .i64 kd1, .int .i64 p1, .int .i64 n1, .int .i64 c1.s, .int .i64 c1.t, .int .i64 c1.k] 36)
        have hCA := hbk.trans (hA.mono hbk.size)
        clear e0 e1 e2 e3 e4 e5 hacts
        by_cases hn50 : 50 < n1
        · go_wp2_with fail
          go_ret
          exact ⟨rfl, hCA⟩
        obtain ⟨svk, Lk, mk, hLk, hFk, hlk, _⟩ := hSk
        have hLA := hLk.below hA
        have hXA := box6_keep hXk hA
        by_cases hk0 : kd1 = 0
        · subst hk0
          have hed := insert_all t svk Lk mk p1 n1 (by omega) (by omega) hFk _ hLA
          go_wp2_with (go_at_call 21; refine hed.mono ?_; rintro e w5 ⟨code, sv5, L5, m5, rfl, hL5, hF5, hl5, hO5⟩)
          have hC5 := Only.below hCA htw (Nat.le_refl _) hO5
          have hX5 := (hO5.block _ (Array.getElem?_eq_some_iff.1 hXA).1 (by simp; exact hxt)).trans hXA
          go_roundw
          case rel => exact ⟨k + 1, by omega, by simp, ⟨sv5, L5, m5, hL5, hF5, by omega, hC5⟩, hC5, hX5⟩
          case measure => simp [intOf]; omega
        by_cases hk1 : kd1 = 1
        · subst hk1
          have hed := delete_all t svk Lk mk p1 n1 hpb.2 hFk _ hLA
          go_wp2_with (go_at_call 22; refine hed.mono ?_; rintro e w5 ⟨code, sv5, L5, m5, rfl, hL5, hF5, hl5, hO5⟩)
          have hC5 := Only.below hCA htw (Nat.le_refl _) hO5
          have hX5 := (hO5.block _ (Array.getElem?_eq_some_iff.1 hXA).1 (by simp; exact hxt)).trans hXA
          go_roundw
          case rel => exact ⟨k + 1, by omega, by simp, ⟨sv5, L5, m5, hL5, hF5, by omega, hC5⟩, hC5, hX5⟩
          case measure => simp [intOf]; omega
        by_cases hk2 : kd1 = 2
        · subst hk2
          have hed := set_all t svk Lk mk p1 n1 c1 hpb.2 hFk _ hLA
          go_wp2_with (go_at_call 23; refine hed.mono ?_; rintro e w5 ⟨code, sv5, L5, m5, rfl, hL5, hF5, hl5, hO5⟩)
          have hC5 := Only.below hCA htw (Nat.le_refl _) hO5
          have hX5 := (hO5.block _ (Array.getElem?_eq_some_iff.1 hXA).1 (by simp; exact hxt)).trans hXA
          go_roundw
          case rel => exact ⟨k + 1, by omega, by simp, ⟨sv5, L5, m5, hL5, hF5, by omega, hC5⟩, hC5, hX5⟩
          case measure => simp [intOf]; omega
        go_wp2_with fail
        go_roundw
        case rel => exact ⟨k + 1, by omega, by simp, ⟨svk, Lk, mk, hLA, hFk, by omega, hCA⟩, hCA, hXA⟩
        case measure => simp [intOf]; omega
    · obtain ⟨sv, L, m, hL, hF, hl, _⟩ := hSk
      have hll : L.length ≤ 2300 := by omega
      clear hnew hmay hact
      have hwh := whole_any t sv L m wr hL
      have hsl : ∀ W, Below wr.heap.size wr W → Calls Try.prog 20 #[.pointer (some ⟨t, 0, none⟩), .int .i64 0, .int .i64 L.length] W fun e w' => ∃ v, e = .returned (.tuple #[v, .int .i64 0]) ∧ RowAt w' W.heap.size 61 v (rle L) ∧ Below W.heap.size W w' := fun W hW => by
        have := slice_ok t sv L m 0 L.length (Nat.zero_le _) (Nat.le_refl _) W (hL.below hW)
        rwa [sub_all] at this
      have hrlen : (rle L).length ≤ 2300 := Nat.le_trans (rle_len_le L) hll
      go_wp2_with fail
      refine hwh.mono ?_
      rintro e w6 ⟨v6, rfl, hC6, B6⟩
      replace hC6 := hC6.base hbk.size
      obtain ⟨a6, cp6, rfl⟩ := hC6.form
      go_wp2_with fail
      refine (hsl w6 B6).mono ?_
      rintro e w7 ⟨v7, rfl, r7, B7⟩
      obtain ⟨a7, cp7, rfl⟩ := r7.form
      have hL7 := (hL.below B6).below B7
      have hC7 := hC6.below B7
      have C7 : Below w.heap.size w w7 := (hbk.trans (B6.mono hbk.size)).trans (B7.mono (Nat.le_trans hbk.size B6.size))
      have hX7 := box6_keep (box6_keep hXk B6) B7
      have hS7 : SpansAt w7 (.slice a7 (rle L).length cp7) (ips (rle L)) := spans_rowAt r7 (fun x hx => by
        have h1 := tot_mem (rle L) hx
        rw [rle_length] at h1; omega) (by omega)
      have hchk := fun W hW => check_any (.slice a7 (rle L).length cp7) (ips (rle L)) L.length (by omega) W (hS7.below hW)
      rw [check_runs hF] at hchk
      have hchk' : Hid _ := hchk
      have hF' : Hid _ := hF
      clear hchk hwh hsl hF hC6 hbk hXk
      go_wp2_with fail
      go_loopw [15, 16] (fun s i wr => ∃ k : Nat, k ≤ (rle L).length ∧ i = .int .i64 k ∧ s = .int .i64 (tot ((rle L).take k)) ∧ Below w7.heap.size w7 wr) (fun _ i _ => (rle L).length - (intOf i).toNat)
      case atStart => exact ⟨0, by omega, rfl, rfl, Below.refl _ _⟩
      case round =>
        obtain ⟨k2, hk2, rfl, rfl, hb8⟩ := hrel
        by_cases hlt2 : k2 < (rle L).length
        · obtain ⟨g7, cpx7, he7, _⟩ := span_cells r7 hb8 hlt2
          cases he7
          have hcel : Hid (∀ W, Below w7.heap.size w7 W → W.cell? ⟨g7, k2 * 4, none⟩ = some (.int .i64 (rle L)[k2].1) ∧ W.cell? ⟨g7, k2 * 4 + 1, none⟩ = some (.int .i64 (rle L)[k2].2.s) ∧ W.cell? ⟨g7, k2 * 4 + 2, none⟩ = some (.int .i64 (rle L)[k2].2.t) ∧ W.cell? ⟨g7, k2 * 4 + 3, none⟩ = some (.int .i64 (rle L)[k2].2.k)) := fun W hW => by
            obtain ⟨g, cpx, he, hh⟩ := span_cells r7 hW hlt2
            cases he; exact hh
          have hpos := rle_full L (rle L)[k2] (List.getElem_mem hlt2)
          have hts := tot_take_succ (rle L) hlt2
          have htl := tot_take_le (rle L) (k2 + 1)
          rw [rle_length] at htl
          have hbyte : Hid (∀ j, tot ((rle L).take k2) ≤ j → j < tot ((rle L).take (k2 + 1)) → L[j]? = some (rle L)[k2].2) := fun j h1 h2 => rle_byte L hlt2 h1 h2
          obtain ⟨d0, d1, d2, d3⟩ := hcel.out _ hb8
          by_cases hk0 : k2 = 0
          · have hk0' : Hid _ := hk0
            clear hk0
            generalize hT0 : tot ((rle L).take k2) = T0 at *
            generalize hT1 : tot ((rle L).take (k2 + 1)) = T1 at *
            generalize hN : (rle L)[k2].1 = N at *
            generalize hC : (rle L)[k2].2 = C at *
            go_wp2_with fail
            have hg1 : decide ((N : Int) < 1) = false := by rw [decide_eq_false_iff_not]; omega
            have hg2 : decide ((0 : Int) < (k2 : Int)) = false := by have := hk0'.out; rw [decide_eq_false_iff_not]; omega
            have hg3 : decide (0 < k2) = false := by have := hk0'.out; rw [decide_eq_false_iff_not]; omega
            go_quiet (fail)
            clear hg1 hg2 hg3
            go_wp2_with fail
            go_loopw [17] (fun kk wr => ∃ j : Nat, T0 ≤ j ∧ j ≤ T1 ∧ kk = .int .i64 j ∧ Below w7.heap.size w7 wr) (fun kk _ => T1 - (intOf kk).toNat)
            case atStart => exact ⟨T0, Nat.le_refl _, by omega, rfl, below_drewN hb8 _⟩
            case round =>
              obtain ⟨j, hj1, hj2, rfl, hb9⟩ := hrel
              obtain ⟨s0, s1, s2, s3⟩ := hcel.out _ hb9
              by_cases hj : j < T1
              · obtain ⟨g6, cpx, he6, hg6, q0, q1, q2⟩ := (hC7.below hb9).cells (i := j) (by omega)
                cases he6
                have hLj := hbyte.out j hj1 hj
                rw [List.getElem?_eq_getElem (by omega)] at hLj
                injection hLj with hLj
                rw [hLj] at q0 q1 q2
                have hg4 : j < L.length := by omega
                have hg5 : ¬ L.length ≤ j := by omega
                have hg6 : ¬ (L.length : Int) ≤ (j : Int) := by omega
                go_wp2_with fail
                have hg3 : decide ((L.length : Int) ≤ (j : Int)) = false := by rw [decide_eq_false_iff_not]; omega
                have hg7 : decide (L.length ≤ j) = false := by rw [decide_eq_false_iff_not]; omega
                have hg8 : decide (j < L.length) = true := by rw [decide_eq_true_iff]; omega
                have hg9 : decide ((j : Int) < (L.length : Int)) = true := by rw [decide_eq_true_iff]; omega
                go_quiet (fail)
                go_wp2_with fail
                go_roundw
                case rel => exact ⟨j + 1, by omega, by omega, by simp, below_drewN hb9 _⟩
                case measure => simp [intOf]; omega
              · go_wp2_with fail
                go_roundw
                case rel => exact ⟨k2 + 1, by omega, by simp, by rw [hT1]; simp; omega, hb9⟩
                case measure => simp [intOf]; omega
          · obtain ⟨j0, hj0⟩ : ∃ j0, k2 = j0 + 1 := ⟨k2 - 1, by omega⟩
            have hj0l : j0 < (rle L).length := by omega
            have hne : (rle L)[k2].2 ≠ ((rle L)[j0]'hj0l).2 := by subst hj0; exact apart_get (rle L) (rle_apart L) hlt2
            have hcel0 : wr.cell? ⟨g7, j0 * 4 + 1, none⟩ = some (.int .i64 ((rle L)[j0]'hj0l).2.s) ∧ wr.cell? ⟨g7, j0 * 4 + 2, none⟩ = some (.int .i64 ((rle L)[j0]'hj0l).2.t) ∧ wr.cell? ⟨g7, j0 * 4 + 3, none⟩ = some (.int .i64 ((rle L)[j0]'hj0l).2.k) := by
              obtain ⟨g, cpx, he, hh⟩ := span_cells r7 hb8 (k := j0) hj0l
              cases he; exact hh.2
            obtain ⟨u1, u2, u3⟩ := hcel0
            have hnq : ∀ W, (binOp .eql 23 (.agg #[.int .i64 (rle L)[k2].2.s, .int .i64 (rle L)[k2].2.t, .int .i64 (rle L)[k2].2.k]) (.agg #[.int .i64 ((rle L)[j0]'hj0l).2.s, .int .i64 ((rle L)[j0]'hj0l).2.t, .int .i64 ((rle L)[j0]'hj0l).2.k])).run Try.prog W = .ok (.bool false) W := fun W => by have := eqlCh W (rle L)[k2].2 ((rle L)[j0]'hj0l).2; rwa [decide_eq_false hne] at this
            clear hne hk0
            have hj0' : Hid _ := hj0
            clear hj0
            generalize hT0 : tot ((rle L).take k2) = T0 at *
            generalize hT1 : tot ((rle L).take (k2 + 1)) = T1 at *
            generalize hN : (rle L)[k2].1 = N at *
            generalize hC : (rle L)[k2].2 = C at *
            generalize hD : ((rle L)[j0]'hj0l).2 = D at *
            go_wp2_with fail
            have hg1 : decide ((N : Int) < 1) = false := by rw [decide_eq_false_iff_not]; omega
            have hg2 : decide ((0 : Int) < (k2 : Int)) = true := by have := hj0'.out; rw [decide_eq_true_iff]; omega
            have hg3 : decide (0 < k2) = true := by have := hj0'.out; rw [decide_eq_true_iff]; omega
            have hsub : (k2 : Int) - 1 = (j0 : Int) := by have := hj0'.out; omega
            go_quiet (fail)
            clear hg1 hg2 hg3 hsub
            go_wp2_with fail
            go_loopw [17] (fun kk wr => ∃ j : Nat, T0 ≤ j ∧ j ≤ T1 ∧ kk = .int .i64 j ∧ Below w7.heap.size w7 wr) (fun kk _ => T1 - (intOf kk).toNat)
            case atStart => exact ⟨T0, Nat.le_refl _, by omega, rfl, below_drewN hb8 _⟩
            case round =>
              obtain ⟨j, hj1, hj2, rfl, hb9⟩ := hrel
              obtain ⟨s0, s1, s2, s3⟩ := hcel.out _ hb9
              by_cases hj : j < T1
              · obtain ⟨g6, cpx, he6, hg6, q0, q1, q2⟩ := (hC7.below hb9).cells (i := j) (by omega)
                cases he6
                have hLj := hbyte.out j hj1 hj
                rw [List.getElem?_eq_getElem (by omega)] at hLj
                injection hLj with hLj
                rw [hLj] at q0 q1 q2
                have hg4 : j < L.length := by omega
                have hg5 : ¬ L.length ≤ j := by omega
                have hg6 : ¬ (L.length : Int) ≤ (j : Int) := by omega
                go_wp2_with fail
                have hg3 : decide ((L.length : Int) ≤ (j : Int)) = false := by rw [decide_eq_false_iff_not]; omega
                have hg7 : decide (L.length ≤ j) = false := by rw [decide_eq_false_iff_not]; omega
                have hg8 : decide (j < L.length) = true := by rw [decide_eq_true_iff]; omega
                have hg9 : decide ((j : Int) < (L.length : Int)) = true := by rw [decide_eq_true_iff]; omega
                go_quiet (fail)
                go_wp2_with fail
                go_roundw
                case rel => exact ⟨j + 1, by omega, by omega, by simp, below_drewN hb9 _⟩
                case measure => simp [intOf]; omega
              · go_wp2_with fail
                go_roundw
                case rel => exact ⟨k2 + 1, by omega, by simp, by rw [hT1]; simp; omega, hb9⟩
                case measure => simp [intOf]; omega
        · obtain rfl : k2 = (rle L).length := by omega
          rw [List.take_length, rle_length]
          have C8 : Below w.heap.size w wr := C7.trans (hb8.mono C7.size)
          have hX8 := box6_keep hX7 hb8
          have hch := hchk'.out wr hb8
          have hL8 := hL7.below hb8
          have hC8 := hC7.below hb8
          clear hchk' hX7 hL7 hC7 r7 hS7 hL hX4 hS4
          by_cases hz1 : p < 0
          · go_wp2_with (go_at_call 16; refine hch.mono ?_; rintro e w9 ⟨rfl, B9⟩; obtain ⟨z0, z1, z2, z3, z4, z5⟩ := box6 hX8 B9)
            go_ret
            exact ⟨rfl, C8.trans (B9.mono C8.size)⟩
          by_cases hz2 : (L.length : Int) < p
          · go_wp2_with (go_at_call 16; refine hch.mono ?_; rintro e w9 ⟨rfl, B9⟩; obtain ⟨z0, z1, z2, z3, z4, z5⟩ := box6 hX8 B9)
            go_ret
            exact ⟨rfl, C8.trans (B9.mono C8.size)⟩
          by_cases hz3 : L.length = 0
          · have hz4 : Hid (L.length = 0) := hz3
            clear hz3
            go_wp2_with (go_at_call 16; refine hch.mono ?_; rintro e w9 ⟨rfl, B9⟩; have hz5 := hz4.out; obtain ⟨z0, z1, z2, z3, z4, z5⟩ := box6 hX8 B9)
            go_ret
            exact ⟨rfl, C8.trans (B9.mono C8.size)⟩
          obtain ⟨pp, rfl⟩ : ∃ pp : Nat, p = pp := ⟨p.toNat, by omega⟩
          obtain ⟨qq, rfl⟩ : ∃ qq : Nat, q = qq := ⟨q.toNat, by omega⟩
          by_cases hkd : kd = 2
          · subst hkd
            have hwr : IntKind.i64.wrap ((L.length : Int) - (pp : Int)) = (L.length : Int) - (pp : Int) := by rw [IntKind.wrap_i64]; omega
            by_cases hbig : (L.length : Int) - pp < qq
            · go_wp2_with (go_at_call 16; refine hch.mono ?_; rintro e w9 ⟨rfl, B9⟩; obtain ⟨z0, z1, z2, z3, z4, z5⟩ := box6 hX8 B9)
              all_goals (try (rename_i hh; exfalso; simp only [beq_iff_eq] at hh; omega))
              go_ret
              exact ⟨rfl, C8.trans (B9.mono C8.size)⟩
            · have hset : ∀ W, LooksAt t sv L m W → Calls Try.prog 23 #[.pointer (some ⟨t, 0, none⟩), .int .i64 pp, .int .i64 qq, .agg #[.int .i64 c.s, .int .i64 c.t, .int .i64 c.k]] W fun e w' => ∃ sv', e = .returned (.int .i64 0) ∧ LooksAt t sv' (setL L pp qq c) m w' ∧ Only t W w' ∧ ∀ g, sv'.ownBlock = some g → W.heap.size ≤ g := fun W hW => set_ok t sv L m pp qq c hc (by omega) W hW
              go_wp2_with (go_at_call 16; refine hch.mono ?_; rintro e w9 ⟨rfl, B9⟩; obtain ⟨z0, z1, z2, z3, z4, z5⟩ := box6 hX8 B9)
              all_goals (try (rename_i hh; exfalso; simp only [beq_iff_eq] at hh; omega))
              have C9 := C8.trans (B9.mono C8.size)
              have hL9 := hL8.below B9
              have hX9 := box6_keep hX8 B9
              refine (hset w9 hL9).mono ?_
              rintro e w10 ⟨sv10, rfl, hL10, hO10, _⟩
              have C10 := Only.below C9 htw (Nat.le_refl _) hO10
              have hC10 := (hC8.below B9).only hL9 hO10
              have hX10 := (hO10.block _ (Array.getElem?_eq_some_iff.1 hX9).1 (by simp; exact hxt)).trans hX9
              obtain ⟨a0, a1, a2, a3, a4, a5⟩ := box6 hX10 (Below.refl _ w10)
              obtain ⟨g6, cpx, he6, _⟩ := hC10.cells (i := 0) (by omega)
              cases he6
              clear hset hch hL8 hC8 hX8 hO10 hX9
              go_wp2_with fail
              go_loopw [18] (fun i wr => ∃ j : Nat, pp ≤ j ∧ j ≤ pp + qq ∧ i = .int .i64 j ∧ Below w.heap.size w wr ∧ LooksAt t sv10 (setL L pp qq c) m wr ∧ CharsAt wr w.heap.size (.slice (some ⟨g6, 0, none⟩) L.length cp6) (setL L pp (j - pp) c) ∧ wr.heap[w.heap.size]? = some (Obj.cells #[.int .i64 2, .int .i64 pp, .int .i64 qq, .int .i64 c.s, .int .i64 c.t, .int .i64 c.k] 36)) (fun i _ => pp + qq - (intOf i).toNat)
              case atStart => exact ⟨pp, Nat.le_refl _, by omega, rfl, C10, hL10, by rw [Nat.sub_self, setL_zero L c (by omega)]; exact hC10, hX10⟩
              case round =>
                obtain ⟨j, hj1, hj2, rfl, hbj, hLj, hCj, hXj⟩ := hrel
                obtain ⟨b0, b1, b2, b3, b4, b5⟩ := box6 hXj (Below.refl _ wr)
                have hsl := setL_length L (n := j - pp) c (p := pp) (by omega)
                by_cases hj : j < pp + qq
                · obtain ⟨gg, cpy, heg, _, m0, m1, m2⟩ := hCj.cells (i := j) (by omega)
                  rw [hsl] at heg
                  cases heg
                  have hro := hCj.out
                  rw [hsl] at hro
                  have n0 := hro.frozenAt (j * 3)
                  have n1 := hro.frozenAt (j * 3 + 1)
                  have n2 := hro.frozenAt (j * 3 + 2)
                  clear hro
                  obtain ⟨cur, hcur⟩ := hCj.block
                  have hap := hLj.chars hcur
                  obtain ⟨s1, s2⟩ := hCj.store hsl.symm (by omega) c (j := j)
                  have e3 := setL_succ L pp (j - pp) c (by omega)
                  rw [show pp + (j - pp) = j by omega, show j - pp + 1 = j + 1 - pp by omega] at e3
                  rw [e3] at s1
                  have s3 := hLj.only s2 hap.1 hap.2
                  have hgw : w.heap.size ≤ g6 := (hCj.out.lt g6 rfl).1
                  have s4 := Only.below hbj hgw (Nat.le_refl _) s2
                  have s5 := (s2.block _ (Array.getElem?_eq_some_iff.1 hXj).1 (by
                    intro e
                    have e' : w.heap.size = g6 := by injection e
                    rw [e', hcur] at hXj
                    injection hXj with h9
                    injection h9 with _ h9 _
                    cases h9)).trans hXj
                  have S : Hid _ := And.intro s1 (And.intro s3 (And.intro s4 s5))
                  clear s1 s2 s3 s4 s5 hap hcur e3
                  go_wp2_with fail
                  go_roundw
                  case rel => exact ⟨j + 1, by omega, by omega, by simp, S.out.2.2.1, S.out.2.1, S.out.1, S.out.2.2.2⟩
                  case measure => simp [intOf]; omega
                · obtain rfl : j = pp + qq := by omega
                  have e1 : pp + qq - pp = qq := by omega
                  rw [e1] at hCj
                  clear e1 hsl
                  have hwh2 := whole_any t sv10 _ m wr hLj
                  have hsl2 := setL_length L (n := qq) c (p := pp) (by omega)
                  go_wp2_with fail
                  refine hwh2.mono ?_
                  rintro e w11 ⟨v11, rfl, hC11, B11⟩
                  obtain ⟨a11, cp11, hv11⟩ := hC11.form
                  rw [hsl2] at hv11
                  subst hv11
                  have hcs := chars_same _ _ _ _ _ (by rw [hsl2]; omega) w11 hC11 (hCj.below B11)
                  have C11 := hbj.trans (B11.mono hbj.size)
                  go_wp2_with fail
                  refine hcs.mono ?_
                  rintro e w12 ⟨rfl, B12⟩
                  go_wp2_with fail
                  go_ret
                  exact ⟨rfl, C11.trans (B12.mono C11.size)⟩
          · have hins : ∀ W, LooksAt t sv L m W → Calls Try.prog 21 #[.pointer (some ⟨t, 0, none⟩), .int .i64 pp, .int .i64 qq] W fun e w' => ∃ sv', e = .returned (.int .i64 0) ∧ LooksAt t sv' (insL L m pp qq) m w' ∧ Only t W w' ∧ ∀ g, sv'.ownBlock = some g → W.heap.size ≤ g := fun W hW => insert_ok t sv L m pp qq (by omega) (by omega) W hW
            go_wp2_with (go_at_call 16; refine hch.mono ?_; rintro e w9 ⟨rfl, B9⟩; obtain ⟨z0, z1, z2, z3, z4, z5⟩ := box6 hX8 B9)
            all_goals (try (rename_i hh; exfalso; simp only [beq_iff_eq] at hh; omega))
            have C9 := C8.trans (B9.mono C8.size)
            have hL9 := hL8.below B9
            have hX9 := box6_keep hX8 B9
            refine (hins w9 hL9).mono ?_
            rintro e w10 ⟨sv10, rfl, hL10, hO10, _⟩
            have C10 := Only.below C9 htw (Nat.le_refl _) hO10
            have hC10 := (hC8.below B9).only hL9 hO10
            have hX10 := (hO10.block _ (Array.getElem?_eq_some_iff.1 hX9).1 (by simp; exact hxt)).trans hX9
            obtain ⟨a0, a1, a2, a3, a4, a5⟩ := box6 hX10 (Below.refl _ w10)
            obtain ⟨g6, cpx, he6, _⟩ := hC10.cells (i := 0) (by omega)
            cases he6
            have hcap : L.length ≤ cp6 := hC10.cap
            clear hins hch hL8 hC8 hX8 hO10 hX9
            obtain ⟨ii, hi0, hi1, hi2, hi3⟩ := info_parts info23
            have hsA : Hid _ := hC10.take (p := pp) (by omega) cp6
            have hlA : (sub L 0 pp).length = pp := by rw [sub_length L (by omega)]; omega
            go_wp2_with (at_builtin; refine wpList_append_any _ rfl _ _ 58 rfl w10.heap.size 23 ii _ 3 24 Try.underlying58 hi0 hi1 hi2 hi3 rfl (by decide) (.slice none 0 0) 0 [] rfl (World.ownsRow_nil _ _ _ _) pp (chRow (sub L 0 pp)) _ rfl hsA.out (by unfold maxLen; omega) (by omega) (Nat.le_refl _) ?_; intro v11 w11 hown hgrow; replace hown : CharsAt w11 w10.heap.size v11 (sub L 0 pp) := charsAt_of hown (by omega) (by simp))
            have B11 : Below w10.heap.size w10 w11 := below_grown (Below.refl _ w10) (World.ownsRow_nil _ w10.heap.size 23 3) (Nat.le_refl _) (Nat.le_refl _) hgrow
            have hav : aheadC L m pp = L[pp - 1]'(by omega) := by unfold aheadC; rw [List.getElem?_eq_getElem (by omega)]; rfl
            have hmx : max ((pp : Int) - 1) 0 = ((pp - 1 : Nat) : Int) := by omega
            obtain ⟨gy, cpy, hey, hgl, r0, r1, r2⟩ := hC10.cells (i := pp - 1) (by omega)
            cases hey
            rw [← hav] at r0 r1 r2
            clear hav
            have hpml : pp - 1 < L.length := by omega
            generalize hpm : pp - 1 = pm at *
            have hpm' : Hid _ := hpm
            clear hpm
            generalize haa : aheadC L m pp = aa at *
            obtain ⟨a11, cp11, hv11⟩ := hown.form
            rw [hlA] at hv11
            subst hv11
            go_wp2_with fail
            go_loopw [19, 20] (fun v i wr => ∃ j : Nat, j ≤ qq ∧ i = .int .i64 j ∧ Below w10.heap.size w10 wr ∧ CharsAt wr w10.heap.size v (sub L 0 pp ++ List.replicate j aa)) (fun _ i _ => qq - (intOf i).toNat)
            case atStart => exact ⟨0, by omega, rfl, B11, by simpa using hown⟩
            case round =>
              obtain ⟨j, hj, rfl, hbj, hCj⟩ := hrel
              obtain ⟨b0, b1, b2, b3, b4, b5⟩ := box6 hX10 hbj
              have hlj : (sub L 0 pp ++ List.replicate j aa).length = pp + j := by rw [List.length_append, hlA, List.length_replicate]
              by_cases hjl : j < qq
              · have s0 : wr.cell? _ = _ := (hbj.cell hgl).trans r0
                have s1 : wr.cell? _ = _ := (hbj.cell hgl).trans r1
                have s2 : wr.cell? _ = _ := (hbj.cell hgl).trans r2
                go_wp2_with (at_builtin; refine wpList_append_any _ rfl _ _ 58 rfl w10.heap.size 23 ii _ 3 24 Try.underlying58 hi0 hi1 hi2 hi3 rfl (by decide) _ _ _ rfl (hCj.out.alloc _) 1 _ _ rfl (srcs1 wr _ _ _ 23) (by unfold maxLen; omega) (by omega) (by have := hbj.size; simp; omega) ?_; intro v12 w12 hown2 hgrow2)
                have hB12 : Below w10.heap.size w10 w12 := below_grown (hbj.alloc hbj.size _) (hCj.out.alloc _) (Nat.le_refl _) (Nat.le_refl _) hgrow2
                have e9 : sub L 0 pp ++ List.replicate (j + 1) aa = (sub L 0 pp ++ List.replicate j aa) ++ [aa] := by rw [List.replicate_succ', List.append_assoc]
                have hown3 : CharsAt w12 w10.heap.size v12 (sub L 0 pp ++ List.replicate (j + 1) aa) := by
                  rw [e9]
                  exact charsAt_of hown2 (by simp only [List.length_append, List.length_singleton]) (chRow_append (sub L 0 pp ++ List.replicate j aa) [aa]).symm
                clear e9
                clear hown2
                go_wp2_with fail
                go_roundw
                case rel => exact ⟨j + 1, by omega, by simp, hB12, hown3⟩
                case measure => simp [intOf]; omega
              · obtain rfl : j = qq := by omega
                have hCw := hC10.below hbj
                have hsB : Srcs wr 3 (.slice (if cp6 = pp then some ⟨g6, 0, none⟩ else some ⟨g6, pp * 3, none⟩) (L.length - pp) (cp6 - pp)) (L.length - pp) (chRow (sub L pp L.length)) := by
                  by_cases he : cp6 = pp
                  · rw [if_pos he]; exact CharsAt.drop0 (by omega) _
                  · rw [if_neg he]; exact hCw.drop (by omega) _
                have hsB' : Hid _ := hsB
                clear hsB
                go_wp2_with (at_builtin; refine wpList_append_any _ rfl _ _ 58 rfl w10.heap.size 23 ii _ 3 24 Try.underlying58 hi0 hi1 hi2 hi3 rfl (by decide) _ _ _ rfl hCj.out (L.length - pp) (chRow (sub L pp L.length)) _ rfl hsB'.out (by unfold maxLen; omega) (by omega) hbj.size ?_; intro v13 w13 hown4 hgrow4)
                all_goals
                  have hB13 : Below w10.heap.size w10 w13 := below_grown hbj hCj.out (Nat.le_refl _) (Nat.le_refl _) hgrow4
                  have hfin : CharsAt w13 w10.heap.size v13 (insL L m pp j) := by
                    have e0 : insL L m pp j = sub L 0 pp ++ List.replicate j aa ++ sub L pp L.length := by unfold insL; rw [haa]
                    rw [e0]
                    exact charsAt_of hown4 (by simp only [List.length_append, List.length_replicate, hlA, sub_length L (Nat.le_refl _)]) (chRow_append _ _).symm
                  have hL13 := hL10.below hB13
                  have hwh3 := whole_any t sv10 _ m w13 hL13
                  have hil := insL_length L m j (show pp ≤ L.length by omega)
                  have C13 := C10.trans (hB13.mono C10.size)
                  obtain ⟨a13, cp13, hv13⟩ := hfin.form
                  rw [hil] at hv13
                  subst hv13
                  clear hown4
                  go_wp2_with fail
                  refine hwh3.mono ?_
                  rintro e w14 ⟨v14, rfl, hC14, B14⟩
                  obtain ⟨a14, cp14, hv14⟩ := hC14.form
                  rw [hil] at hv14
                  subst hv14
                  have hcs := chars_same _ _ _ _ _ (by rw [hil]; omega) w14 hC14 (hfin.below B14)
                  have C14 := C13.trans (B14.mono C13.size)
                  go_wp2_with fail
                  refine hcs.mono ?_
                  rintro e w15 ⟨rfl, B15⟩
                  go_wp2_with fail
                  go_ret
                  exact ⟨rfl, C14.trans (B15.mono C14.size)⟩
end Go.Proofs.Ytjakmekifpbldaa.spanEdits
