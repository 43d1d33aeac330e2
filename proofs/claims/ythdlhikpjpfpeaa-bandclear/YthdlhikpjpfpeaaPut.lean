/-
  What is proved here: where one more object stands.
-/
import Derived.Test.YthdlhikpjpfpeaaBelow
import Derived.Test.YthdlhikpjpfpeaaCheck
namespace Go.Proofs.Ythdlhikpjpfpeaa
open Go.RowKit Go.Shelf

theorem putE_no {n : Int} {l : List Bd} {s y h d : Int} (h0 : ckI l ≠ 0) : putE n l s y h d = ckI l ∧ putB n l s y h d = ⟨0, 0, 0, 0⟩ := by
  have e : putE n l s y h d = ckI l := if_neg h0
  exact ⟨e, if_neg (by rw [e]; exact h0)⟩
theorem putE_side {n : Int} {l : List Bd} {s y h d : Int} (h0 : ckI l = 0) (h1 : sdB s = false) : putE n l s y h d = 2 ∧ putB n l s y h d = ⟨0, 0, 0, 0⟩ := by
  have e : putE n l s y h d = 2 := (if_pos h0).trans (if_neg (by rw [h1]; simp))
  exact ⟨e, if_neg (by rw [e]; decide)⟩
theorem putE_out {n : Int} {l : List Bd} {s y h d : Int} (h0 : ckI l = 0) (h1 : sdB s = true) (h2 : ¬ (inB n = true ∧ inB y = true ∧ inB h = true ∧ inB d = true)) : putE n l s y h d = 5 ∧ putB n l s y h d = ⟨0, 0, 0, 0⟩ := by
  have e : putE n l s y h d = 5 := (if_pos h0).trans ((if_pos h1).trans (if_neg h2))
  exact ⟨e, if_neg (by rw [e]; decide)⟩
theorem putE_in {n : Int} {l : List Bd} {s y h d : Int} (h0 : ckI l = 0) (h1 : sdB s = true) (h2 : inB n = true ∧ inB y = true ∧ inB h = true ∧ inB d = true) : putE n l s y h d = 0 ∧ putB n l s y h d = ⟨s, belF s l y, h, min d ((max (n - 10) 0) / 2)⟩ := by
  have e : putE n l s y h d = 0 := (if_pos h0).trans ((if_pos h1).trans (if_pos h2))
  exact ⟨e, if_pos e⟩
def bd0 : Bd := ⟨0, 0, 0, 0⟩
set_option maxRecDepth 100000 in
set_option maxHeartbeats 4000000 in
theorem put_any (v : Value) (l : List Bd) (n s y h d : Int) (hl : l.length ≤ 9223372036854775807) (w : World) (hS : RecAt 4 bdL w v l) :
    Calls Try.prog 15 #[.int .i64 n, v, .int .i64 s, .int .i64 y, .int .i64 h, .int .i64 d] w fun e w' => e = .returned (.tuple #[bdV (putB n l s y h d), .int .i64 (putE n l s y h d)]) ∧ Below w.heap.size w w' := by
  have hB := (Below.refl w.heap.size w).alloc (Nat.le_refl _) (.cells (bdC bd0) 34)
  have hx0 : (w.alloc (.cells (bdC bd0) 34)).heap[w.heap.size]? = some (.cells (bdC bd0) 34 (0, 0)) := heap_new _ _
  have hz : (w.alloc (.cells (bdC bd0) 34)).heap.size = w.heap.size + 1 := World.size_alloc _ _
  have hx : Hid (∀ W, Below (w.alloc (.cells (bdC bd0) 34)).heap.size (w.alloc (.cells (bdC bd0) 34)) W → W.heap[w.heap.size]? = some (.cells (bdC bd0) 34 (0, 0))) := fun W hW => (hW.block _ (by rw [hz]; exact Nat.lt_succ_self _)).trans hx0
  have hck : ∀ W, Below w.heap.size w W → Calls Try.prog 11 #[v] W fun e w' => e = .returned (.int .i64 (ckI l)) ∧ Below W.heap.size W w' := fun W hW => check_any v l hl W (hS.below hW (Nat.le_refl _))
  have hs := isSide_any s
  have hn := reaches_any n
  have hy := reaches_any y
  have hh := reaches_any h
  have hd := reaches_any d
  clear hx0
  by_cases h0 : ckI l = 0
  · rw [h0] at hck
    have hok := ckI_ok h0
    rcases ds : sdB s with _ | _
    · rw [ds] at hs
      rw [(putE_side h0 ds).1, (putE_side h0 ds).2]
      obtain ⟨a, cap, rfl, -⟩ := hS.ex
      clear hS h0 hok ds hn hy hh hd
      go_enter Try.func15, Try.ntmps15
      go_wp2_with (first | (go_at_call 11; refine (hck _ hB).mono ?_; rintro e w1 ⟨rfl, b1⟩; have hx1 := hx.out w1 b1; have hB1 := hB.trans (b1.mono hB.size)) | (go_at_call 25; (with_reducible refine (hs _).mono ?_); rintro e w' ⟨rfl, hw⟩; subst w') | (go_at_call 20; (first | with_reducible refine (hn _).mono ?_ | with_reducible refine (hy _).mono ?_ | with_reducible refine (hh _).mono ?_ | with_reducible refine (hd _).mono ?_); rintro e w' ⟨rfl, hw⟩; subst w') | (refine wpList_store_row rfl 34 _ _ rfl w.heap.size (bdC bd0) rfl rfl 34 _ hx1 (info34 _) rfl (bdC_one _) ?_))
      refine bodyPost_ret (results_cell_row2 rfl _ _ w.heap.size 34 (bdC bd0) (0, 0) _ rfl (setRow_heap _ _ _ _ 34 _ hx1) Try.underlying34 rfl (info34 bd0)) rfl ⟨rfl, below_row hB1 hB1.size (Nat.le_refl _) _⟩
    rw [ds] at hs
    rcases d1 : inB n with _ | _
    · have e := putE_out (y := y) (h := h) (d := d) h0 ds (fun g => by rw [d1] at g; simp at g)
      rw [d1] at hn
      rw [e.1, e.2]
      obtain ⟨a, cap, rfl, -⟩ := hS.ex
      clear hS h0 hok ds e d1 hy hh hd
      go_enter Try.func15, Try.ntmps15
      go_wp2_with (first | (go_at_call 11; refine (hck _ hB).mono ?_; rintro e w1 ⟨rfl, b1⟩; have hx1 := hx.out w1 b1; have hB1 := hB.trans (b1.mono hB.size)) | (go_at_call 25; (with_reducible refine (hs _).mono ?_); rintro e w' ⟨rfl, hw⟩; subst w') | (go_at_call 20; (first | with_reducible refine (hn _).mono ?_ | with_reducible refine (hy _).mono ?_ | with_reducible refine (hh _).mono ?_ | with_reducible refine (hd _).mono ?_); rintro e w' ⟨rfl, hw⟩; subst w') | (refine wpList_store_row rfl 34 _ _ rfl w.heap.size (bdC bd0) rfl rfl 34 _ hx1 (info34 _) rfl (bdC_one _) ?_))
      refine bodyPost_ret (results_cell_row2 rfl _ _ w.heap.size 34 (bdC bd0) (0, 0) _ rfl (setRow_heap _ _ _ _ 34 _ hx1) Try.underlying34 rfl (info34 bd0)) rfl ⟨rfl, below_row hB1 hB1.size (Nat.le_refl _) _⟩
    rcases d2 : inB y with _ | _
    · have e := putE_out (n := n) (h := h) (d := d) h0 ds (fun g => by rw [d2] at g; simp at g)
      rw [d1] at hn
      rw [d2] at hy
      rw [e.1, e.2]
      obtain ⟨a, cap, rfl, -⟩ := hS.ex
      clear hS h0 hok ds e d1 d2 hh hd
      go_enter Try.func15, Try.ntmps15
      go_wp2_with (first | (go_at_call 11; refine (hck _ hB).mono ?_; rintro e w1 ⟨rfl, b1⟩; have hx1 := hx.out w1 b1; have hB1 := hB.trans (b1.mono hB.size)) | (go_at_call 25; (with_reducible refine (hs _).mono ?_); rintro e w' ⟨rfl, hw⟩; subst w') | (go_at_call 20; (first | with_reducible refine (hn _).mono ?_ | with_reducible refine (hy _).mono ?_ | with_reducible refine (hh _).mono ?_ | with_reducible refine (hd _).mono ?_); rintro e w' ⟨rfl, hw⟩; subst w') | (refine wpList_store_row rfl 34 _ _ rfl w.heap.size (bdC bd0) rfl rfl 34 _ hx1 (info34 _) rfl (bdC_one _) ?_))
      refine bodyPost_ret (results_cell_row2 rfl _ _ w.heap.size 34 (bdC bd0) (0, 0) _ rfl (setRow_heap _ _ _ _ 34 _ hx1) Try.underlying34 rfl (info34 bd0)) rfl ⟨rfl, below_row hB1 hB1.size (Nat.le_refl _) _⟩
    rcases d3 : inB h with _ | _
    · have e := putE_out (n := n) (y := y) (d := d) h0 ds (fun g => by rw [d3] at g; simp at g)
      rw [d1] at hn
      rw [d2] at hy
      rw [d3] at hh
      rw [e.1, e.2]
      obtain ⟨a, cap, rfl, -⟩ := hS.ex
      clear hS h0 hok ds e d1 d2 d3 hd
      go_enter Try.func15, Try.ntmps15
      go_wp2_with (first | (go_at_call 11; refine (hck _ hB).mono ?_; rintro e w1 ⟨rfl, b1⟩; have hx1 := hx.out w1 b1; have hB1 := hB.trans (b1.mono hB.size)) | (go_at_call 25; (with_reducible refine (hs _).mono ?_); rintro e w' ⟨rfl, hw⟩; subst w') | (go_at_call 20; (first | with_reducible refine (hn _).mono ?_ | with_reducible refine (hy _).mono ?_ | with_reducible refine (hh _).mono ?_ | with_reducible refine (hd _).mono ?_); rintro e w' ⟨rfl, hw⟩; subst w') | (refine wpList_store_row rfl 34 _ _ rfl w.heap.size (bdC bd0) rfl rfl 34 _ hx1 (info34 _) rfl (bdC_one _) ?_))
      refine bodyPost_ret (results_cell_row2 rfl _ _ w.heap.size 34 (bdC bd0) (0, 0) _ rfl (setRow_heap _ _ _ _ 34 _ hx1) Try.underlying34 rfl (info34 bd0)) rfl ⟨rfl, below_row hB1 hB1.size (Nat.le_refl _) _⟩
    rcases d4 : inB d with _ | _
    · have e := putE_out (n := n) (y := y) (h := h) h0 ds (fun g => by rw [d4] at g; simp at g)
      rw [d1] at hn
      rw [d2] at hy
      rw [d3] at hh
      rw [d4] at hd
      rw [e.1, e.2]
      obtain ⟨a, cap, rfl, -⟩ := hS.ex
      clear hS h0 hok ds e d1 d2 d3 d4
      go_enter Try.func15, Try.ntmps15
      go_wp2_with (first | (go_at_call 11; refine (hck _ hB).mono ?_; rintro e w1 ⟨rfl, b1⟩; have hx1 := hx.out w1 b1; have hB1 := hB.trans (b1.mono hB.size)) | (go_at_call 25; (with_reducible refine (hs _).mono ?_); rintro e w' ⟨rfl, hw⟩; subst w') | (go_at_call 20; (first | with_reducible refine (hn _).mono ?_ | with_reducible refine (hy _).mono ?_ | with_reducible refine (hh _).mono ?_ | with_reducible refine (hd _).mono ?_); rintro e w' ⟨rfl, hw⟩; subst w') | (refine wpList_store_row rfl 34 _ _ rfl w.heap.size (bdC bd0) rfl rfl 34 _ hx1 (info34 _) rfl (bdC_one _) ?_))
      refine bodyPost_ret (results_cell_row2 rfl _ _ w.heap.size 34 (bdC bd0) (0, 0) _ rfl (setRow_heap _ _ _ _ 34 _ hx1) Try.underlying34 rfl (info34 bd0)) rfl ⟨rfl, below_row hB1 hB1.size (Nat.le_refl _) _⟩
    have e := putE_in h0 ds ⟨d1, d2, d3, d4⟩
    rw [e.1, e.2]
    rw [d1] at hn
    rw [d2] at hy
    rw [d3] at hh
    rw [d4] at hd
    obtain ⟨n1, n2⟩ := inB_get d1
    obtain ⟨y1, y2⟩ := inB_get d2
    obtain ⟨h1, h2⟩ := inB_get d3
    obtain ⟨t1, t2⟩ := inB_get d4
    have hbel : Hid (∀ W, Below w.heap.size w W → Calls Try.prog 24 #[v, .int .i64 s, .int .i64 y] W fun e w' => e = .returned (.int .i64 (belF s l y)) ∧ Below W.heap.size W w') := fun W hW => below_any v l s y hok W (hS.below hW (Nat.le_refl _))
    have hrm := room_any n d1
    obtain ⟨a, cap, rfl, -⟩ := hS.ex
    clear hS h0 hok ds e d1 d2 d3 d4
    generalize belF s l y = p at *
    generalize (max (n - 10) 0) / 2 = q at *
    have hm : Hid (min d q = min d q) := rfl
    generalize hmm : min d q = m at *
    have hm' : Hid (min d q = m) := hmm
    clear hm hmm
    go_enter Try.func15, Try.ntmps15
    go_wp2_with (first | (go_at_call 11; refine (hck _ hB).mono ?_; rintro e w1 ⟨rfl, b1⟩; have hx1 := hx.out w1 b1; have hB1 := hB.trans (b1.mono hB.size)) | (go_at_call 25; (with_reducible refine (hs _).mono ?_); rintro e w' ⟨rfl, hw⟩; subst w') | (go_at_call 20; (first | with_reducible refine (hn _).mono ?_ | with_reducible refine (hy _).mono ?_ | with_reducible refine (hh _).mono ?_ | with_reducible refine (hd _).mono ?_); rintro e w' ⟨rfl, hw⟩; subst w') | (refine wpList_store_row rfl 34 _ _ rfl w.heap.size (bdC bd0) rfl rfl 34 _ hx1 (info34 _) rfl (bdC_one _) ?_))
    (with_reducible refine (hbel.out _ hB1).mono ?_)
    rintro e w2 ⟨rfl, b2⟩
    have hx2 := hx.out w2 (b1.trans (b2.mono b1.size))
    have hB2 := hB1.trans (b2.mono hB1.size)
    go_wp2_with fail
    (with_reducible refine (hrm _).mono ?_)
    rintro e w' ⟨rfl, hw⟩
    subst w'
    clear hck hs hn hy hh hd hbel hrm hx hB b1 b2 hx1 hB1
    by_cases g : q < d
    · have e : q = m := by have := hm'.out; omega
      subst e
      go_wp2_with (refine wpList_store_row rfl 34 _ _ rfl w.heap.size (bdC ⟨s, p, h, q⟩) rfl rfl 34 _ hx2 (info34 _) rfl (bdC_one _) ?_)
      refine bodyPost_ret (results_cell_row2 rfl _ _ w.heap.size 34 (bdC ⟨s, p, h, q⟩) (0, 0) _ rfl (setRow_heap _ _ _ _ 34 _ hx2) Try.underlying34 rfl (info34 _)) rfl ⟨rfl, below_row hB2 hB2.size (Nat.le_refl _) _⟩
    · have e : d = m := by have := hm'.out; omega
      subst e
      go_wp2_with (refine wpList_store_row rfl 34 _ _ rfl w.heap.size (bdC ⟨s, p, h, d⟩) rfl rfl 34 _ hx2 (info34 _) rfl (bdC_one _) ?_)
      refine bodyPost_ret (results_cell_row2 rfl _ _ w.heap.size 34 (bdC ⟨s, p, h, d⟩) (0, 0) _ rfl (setRow_heap _ _ _ _ 34 _ hx2) Try.underlying34 rfl (info34 _)) rfl ⟨rfl, below_row hB2 hB2.size (Nat.le_refl _) _⟩
  · have e := putE_no (n := n) (s := s) (y := y) (h := h) (d := d) h0
    rw [e.1, e.2]
    have h0' : (ckI l == 0) = false := by simpa using h0
    obtain ⟨a, cap, rfl, -⟩ := hS.ex
    clear hS h0 e hs hn hy hh hd
    generalize ckI l = z at *
    go_enter Try.func15, Try.ntmps15
    go_wp2_with (first | (go_at_call 11; refine (hck _ hB).mono ?_; rintro e w1 ⟨rfl, b1⟩; have hx1 := hx.out w1 b1; have hB1 := hB.trans (b1.mono hB.size)) | (go_at_call 25; (with_reducible refine (hs _).mono ?_); rintro e w' ⟨rfl, hw⟩; subst w') | (go_at_call 20; (first | with_reducible refine (hn _).mono ?_ | with_reducible refine (hy _).mono ?_ | with_reducible refine (hh _).mono ?_ | with_reducible refine (hd _).mono ?_); rintro e w' ⟨rfl, hw⟩; subst w') | (refine wpList_store_row rfl 34 _ _ rfl w.heap.size (bdC bd0) rfl rfl 34 _ hx1 (info34 _) rfl (bdC_one _) ?_))
    refine bodyPost_ret (results_cell_row2 rfl _ _ w.heap.size 34 (bdC bd0) (0, 0) _ rfl (setRow_heap _ _ _ _ 34 _ hx1) Try.underlying34 rfl (info34 bd0)) rfl ⟨rfl, below_row hB1 hB1.size (Nat.le_refl _) _⟩

end Go.Proofs.Ythdlhikpjpfpeaa
