/-
  What is proved here: where one more object stands, as the document tells it.
-/
import Derived.Test.YthdlhikpjpfpeaaPut
import Derived.BigRegion
import Derived.BigQuiet
namespace Go.Proofs.Ythdlhikpjpfpeaa
open Go.RowKit Go.Shelf

/-- A band's box. -/
structure BB (W : World) (b : Nat) (x : Bd) : Prop where
  row : W.heap[b]? = some (.cells (bdC x) 34 (0, 0))
theorem BB.new (w : World) (x : Bd) : BB (w.alloc (.cells (bdC x) 34)) w.heap.size x := ⟨heap_new w _⟩
theorem BB.lt {W : World} {b : Nat} {x : Bd} (h : BB W b x) : b < W.heap.size := (Array.getElem?_eq_some_iff.1 h.row).1
theorem BB.below {n : Nat} {W W' : World} {b : Nat} {x : Bd} (h : BB W b x) (hb : Below n W W') (hn : b < n) : BB W' b x := ⟨(hb.block b hn).trans h.row⟩
theorem BB.set {W : World} {b : Nat} {x : Bd} (h : BB W b x) (z : Bd) : BB (W.setRow b (bdC z)) b z := ⟨setRow_heap _ _ _ _ 34 _ h.row⟩
theorem BB.setY {W : World} {b : Nat} {x : Bd} (h : BB W b x) (y : Int) : BB (W.setCell ⟨b, 1, none⟩ (.int .i64 y)) b ⟨x.s, y, x.h, x.w⟩ := ⟨heap_setCell_same W b 1 _ 34 _ h.row⟩
theorem BB.turns {X : Nat → Prop} {W W' : World} {b : Nat} {x : Bd} (h : BB W b x) (ht : Turns X W W') (hn : ¬ X b) : BB W' b x := ⟨(ht.block b h.lt hn).trans h.row⟩
theorem BB.c0 {W : World} {b : Nat} {x : Bd} (h : BB W b x) : W.cell? ⟨b, 0, none⟩ = some (.int .i64 x.s) := by rw [Lib.cell_of_heap h.row]; rfl
theorem BB.c1 {W : World} {b : Nat} {x : Bd} (h : BB W b x) : W.cell? ⟨b, 1, none⟩ = some (.int .i64 x.y) := by rw [Lib.cell_of_heap h.row]; rfl
theorem BB.c2 {W : World} {b : Nat} {x : Bd} (h : BB W b x) : W.cell? ⟨b, 2, none⟩ = some (.int .i64 x.h) := by rw [Lib.cell_of_heap h.row]; rfl
theorem BB.c3 {W : World} {b : Nat} {x : Bd} (h : BB W b x) : W.cell? ⟨b, 3, none⟩ = some (.int .i64 x.w) := by rw [Lib.cell_of_heap h.row]; rfl
theorem BB.z1 {W : World} {b : Nat} {x : Bd} (h : BB W b x) : W.frozen? ⟨b, 1, none⟩ = false := Lib.frozen_of_heap h.row _
theorem BB.drewN {W : World} {b : Nat} {x : Bd} (h : BB W b x) (q : Nat) : BB (W.drewN q) b x := ⟨h.row⟩
theorem boxed (W : World) (x : Bd) : BB ((W.alloc (Obj.cells #[.int .i64 0, .int .i64 0, .int .i64 0, .int .i64 0] 34)).setRow W.heap.size (bdC x)) W.heap.size x ∧ Below W.heap.size W ((W.alloc (Obj.cells #[.int .i64 0, .int .i64 0, .int .i64 0, .int .i64 0] 34)).setRow W.heap.size (bdC x)) :=
  ⟨(BB.new W bd0).set _, below_row ((Below.refl W.heap.size W).alloc (Nat.le_refl _) (.cells (bdC bd0) 34)) (by simp) (Nat.le_refl _) _⟩
set_option maxRecDepth 100000 in
set_option maxHeartbeats 4000000 in
theorem rput_ok (a : Option Addr) (l : List Bd) (cap : Nat) (n s y h d : Int) (hok : Ok l) (hn0 : 0 ≤ n ∧ n ≤ 4095) (hy0 : 0 ≤ y ∧ y ≤ 4095) (hh0 : 0 ≤ h ∧ h ≤ 4095) (hd0 : 0 ≤ d ∧ d ≤ 4095) (w : World) (hS : RecAt 4 bdL w (.slice a l.length cap) l)
    (hck : ∀ W, Below w.heap.size w W → Calls Try.prog 12 #[.slice a l.length cap] W fun e w' => e = .returned (.int .i64 0) ∧ Below W.heap.size W w')
    (hs : ∀ W, Calls Try.prog 26 #[.int .i64 s] W fun e w' => e = .returned (.bool true) ∧ w' = W) (hn : ∀ W, Calls Try.prog 22 #[.int .i64 n] W fun e w' => e = .returned (.bool true) ∧ w' = W) (hy : ∀ W, Calls Try.prog 22 #[.int .i64 y] W fun e w' => e = .returned (.bool true) ∧ w' = W) (hh : ∀ W, Calls Try.prog 22 #[.int .i64 h] W fun e w' => e = .returned (.bool true) ∧ w' = W) (hd : ∀ W, Calls Try.prog 22 #[.int .i64 d] W fun e w' => e = .returned (.bool true) ∧ w' = W) :
    Calls Try.prog 16 #[.int .i64 n, .slice a l.length cap, .int .i64 s, .int .i64 y, .int .i64 h, .int .i64 d] w fun e w' => e = .returned (.tuple #[bdV ⟨s, belF s l y, h, min d ((max (n - 10) 0) / 2)⟩, .int .i64 0]) ∧ Below w.heap.size w w' := by
  have hB := (Below.refl w.heap.size w).alloc (Nat.le_refl _) (.cells (bdC bd0) 34)
  have hx := BB.new w bd0
  have hr0 : Hid (belF s (l.drop 0) y = belF s l y) := rfl
  have hl := hok.1
  obtain ⟨a', cap', he, h2⟩ := hS.ex
  cases he
  clear hS
  generalize belF s l y = r at *
  generalize hmm : min d ((max (n - 10) 0) / 2) = m at *
  have hm : Hid (min d ((max (n - 10) 0) / 2) = m) := hmm
  clear hmm
  obtain ⟨n1, n2⟩ := hn0
  obtain ⟨y1, y2⟩ := hy0
  obtain ⟨h1, h3⟩ := hh0
  obtain ⟨t1, t2⟩ := hd0
  have hway : (n < 10 ∧ 0 < d ∧ 0 = m) ∨ (n < 10 ∧ ¬ 0 < d ∧ d = m) ∨ (¬ n < 10 ∧ (n - 10) / 2 < d ∧ (n - 10) / 2 = m) ∨ (¬ n < 10 ∧ ¬ (n - 10) / 2 < d ∧ d = m) := by have := hm.out; omega
  clear hm
  rcases hway with ⟨q1, q2, rfl⟩ | ⟨q1, q2, rfl⟩ | ⟨q1, q2, rfl⟩ | ⟨q1, q2, rfl⟩
  · skip
    go_enter Try.func16, Try.ntmps16
    go_wp2_with (first | (go_at_call 12; refine (hck _ hB).mono ?_; rintro e w1 ⟨rfl, b1⟩; have hx1 := hx.below b1 hx.lt; have hB1 := hB.trans (b1.mono hB.size); obtain ⟨hg1, hg2⟩ := boxed w1 ⟨s, y, h, 0⟩; have hlt1 := hx1.lt; have hN1 := BB.new w1 bd0) | (go_at_call 26; (with_reducible refine (hs _).mono ?_); rintro e w' ⟨rfl, hw⟩; subst w') | (go_at_call 22; (first | with_reducible refine (hn _).mono ?_ | with_reducible refine (hy _).mono ?_ | with_reducible refine (hh _).mono ?_ | with_reducible refine (hd _).mono ?_); rintro e w' ⟨rfl, hw⟩; subst w') | (refine wpList_store_row rfl 34 _ _ rfl w1.heap.size (bdC ⟨s, y, h, 0⟩) rfl rfl 34 _ hN1.row (info34 _) rfl (bdC_one _) ?_))
    have hB2 := hB1.trans (hg2.mono hB1.size)
    have hx2 := hx1.below hg2 hlt1
    have hz2 := b1.size
    have hzz : (w.alloc (.cells (bdC bd0) 34)).heap.size = w.heap.size + 1 := World.size_alloc _ _
    have hne : Hid (w.heap.size < w1.heap.size) := (by omega : w.heap.size < w1.heap.size)
    clear hck hs hn hy hh hd hN1 hg2 hB1 hx1 b1 hB hx hz2 hzz hlt1
    generalize hg : w1.heap.size = g at *
    generalize ((w1.alloc (Obj.cells #[.int .i64 0, .int .i64 0, .int .i64 0, .int .i64 0] 34)).setRow g (bdC ⟨s, y, h, 0⟩)) = wk at *
    clear hg
    go_loopw [16] (fun i wr => ∃ (k : Nat) (p : Int), k ≤ l.length ∧ i = .int .i64 k ∧ Below w.heap.size w wr ∧ BB wr g ⟨s, p, h, 0⟩ ∧ BB wr w.heap.size bd0 ∧ Hid (belF s (l.drop k) p = r)) (fun i _ => l.length - (intOf i).toNat)
    case atStart => exact ⟨0, y, by omega, rfl, hB2, hg1, hx2, hr0⟩
    case round =>
      obtain ⟨k, p, hk, rfl, hb, hbb, hbx, hr⟩ := hrel
      clear hB2 hg1 hx2
      by_cases hlt : k < l.length
      · rcases h2 with h2 | ⟨b, o, rfl, hbl, hc⟩
        · rw [h2] at hlt; simp at hlt
        have hlt' : (k : Int) < l.length := by omega
        have c0 : wr.cell? ⟨b, o + k * 4, none⟩ = some (.int .i64 l[k].s) := (hb.cell hbl).trans (hc k hlt 0 _ rfl)
        have c1 : wr.cell? ⟨b, o + k * 4 + 1, none⟩ = some (.int .i64 l[k].y) := (hb.cell hbl).trans (hc k hlt 1 _ rfl)
        have c2 : wr.cell? ⟨b, o + k * 4 + 2, none⟩ = some (.int .i64 l[k].h) := (hb.cell hbl).trans (hc k hlt 2 _ rfl)
        have c3 : wr.cell? ⟨b, o + k * 4 + 3, none⟩ = some (.int .i64 l[k].w) := (hb.cell hbl).trans (hc k hlt 3 _ rfl)
        obtain ⟨_, ⟨o1, o2⟩, ⟨o3, o4⟩, ⟨o5, o6⟩⟩ := hok.get k hlt
        have hr2 : Hid (belF s (l.drop (k + 1)) (if l[k].s = s then max p (l[k].y + l[k].h) else p) = r) := by
          have := hr.out
          rw [drop_at hlt] at this
          exact this
        clear hc hr hr0 hok
        generalize l[k].s = x0 at *
        generalize l[k].y = x1 at *
        generalize l[k].h = x2 at *
        generalize l[k].w = x3 at *
        by_cases d0 : x0 = s
        · subst d0
          have e1 : wr.cell? ⟨g, 1, none⟩ = some (.int .i64 p) := hbb.c1
          have ez : wr.frozen? ⟨g, 1, none⟩ = false := hbb.z1
          have hbT : Hid (∀ (y' : Int), Below w.heap.size w (wr.setCell ⟨g, 1, none⟩ (.int .i64 y')).drew ∧ BB (wr.setCell ⟨g, 1, none⟩ (.int .i64 y')).drew g ⟨x0, y', h, 0⟩ ∧ BB (wr.setCell ⟨g, 1, none⟩ (.int .i64 y')).drew w.heap.size bd0) := fun y' => by
            have ht := Turns.setCell (X := fun j => j = g) wr (p := ⟨g, 1, none⟩) rfl (.int .i64 y')
            have hne' := hne.out
            exact ⟨below_drewN (hb.trans (ht.below hb.size (fun j hj => by omega))) 1, ⟨(hbb.setY y').row⟩, ⟨(hbx.turns ht (by omega)).row⟩⟩
          clear hbb hbx
          by_cases dm : p < x1 + x2
          · have hn : Hid (belF x0 (l.drop (k + 1)) (x1 + x2) = r) := (by have := hr2.out; rw [if_pos rfl, (by omega : max p (x1 + x2) = x1 + x2)] at this; exact this : belF x0 (l.drop (k + 1)) (x1 + x2) = r)
            clear hr2
            go_wp2_with fail
            go_region
            all_goals go_wp2_with fail
            exact ⟨⟨k + 1, x1 + x2, by omega, by simp, (hbT.out _).1, (hbT.out _).2.1, (hbT.out _).2.2, hn⟩, by simp [intOf]; omega⟩
          · have hn : Hid (belF x0 (l.drop (k + 1)) p = r) := (by have := hr2.out; rw [if_pos rfl, (by omega : max p (x1 + x2) = p)] at this; exact this : belF x0 (l.drop (k + 1)) p = r)
            clear hr2
            go_wp2_with fail
            go_region
            all_goals go_wp2_with fail
            exact ⟨⟨k + 1, p, by omega, by simp, (hbT.out _).1, (hbT.out _).2.1, (hbT.out _).2.2, hn⟩, by simp [intOf]; omega⟩
        · have hn : Hid (belF s (l.drop (k + 1)) p = r) := (by have := hr2.out; rw [if_neg d0] at this; exact this : belF s (l.drop (k + 1)) p = r)
          clear hr2
          go_wp2_with fail
          go_roundw
          case rel => exact ⟨k + 1, p, by omega, by simp, hb, hbb, hbx, hn⟩
          case measure => simp [intOf]; omega
      · have hn : p = r := by
          have := hr.out
          rw [List.drop_eq_nil_of_le (by omega)] at this
          exact this
        have hge : ¬ (k : Int) < l.length := by omega
        have hrow : wr.heap[g]? = some (.cells #[.int .i64 s, .int .i64 p, .int .i64 h, .int .i64 0] 34 (0, 0)) := hbb.row
        have hrx : wr.heap[w.heap.size]? = some (.cells (bdC bd0) 34 (0, 0)) := hbx.row
        clear hr hr0 h2 hbb hbx hok hne
        subst hn
        go_wp2_with (first | (refine wpList_load_row rfl 34 _ rfl g rfl 34 _ (0, 0) _ hrow Try.underlying34 rfl (info34 ⟨s, p, h, 0⟩) ?_) | (refine wpList_store_row rfl 34 _ _ rfl w.heap.size (bdC ⟨s, p, h, 0⟩) rfl rfl 34 _ hrx (info34 _) rfl (bdC_one _) ?_))
        refine bodyPost_ret (results_cell_row2 rfl _ _ w.heap.size 34 (bdC ⟨s, p, h, 0⟩) (0, 0) _ rfl (setRow_heap _ _ _ _ 34 _ hrx) Try.underlying34 rfl (info34 _)) rfl ⟨rfl, below_row hb hb.size (Nat.le_refl _) _⟩
  · skip
    go_enter Try.func16, Try.ntmps16
    go_wp2_with (first | (go_at_call 12; refine (hck _ hB).mono ?_; rintro e w1 ⟨rfl, b1⟩; have hx1 := hx.below b1 hx.lt; have hB1 := hB.trans (b1.mono hB.size); obtain ⟨hg1, hg2⟩ := boxed w1 ⟨s, y, h, d⟩; have hlt1 := hx1.lt; have hN1 := BB.new w1 bd0) | (go_at_call 26; (with_reducible refine (hs _).mono ?_); rintro e w' ⟨rfl, hw⟩; subst w') | (go_at_call 22; (first | with_reducible refine (hn _).mono ?_ | with_reducible refine (hy _).mono ?_ | with_reducible refine (hh _).mono ?_ | with_reducible refine (hd _).mono ?_); rintro e w' ⟨rfl, hw⟩; subst w') | (refine wpList_store_row rfl 34 _ _ rfl w1.heap.size (bdC ⟨s, y, h, d⟩) rfl rfl 34 _ hN1.row (info34 _) rfl (bdC_one _) ?_))
    have hB2 := hB1.trans (hg2.mono hB1.size)
    have hx2 := hx1.below hg2 hlt1
    have hz2 := b1.size
    have hzz : (w.alloc (.cells (bdC bd0) 34)).heap.size = w.heap.size + 1 := World.size_alloc _ _
    have hne : Hid (w.heap.size < w1.heap.size) := (by omega : w.heap.size < w1.heap.size)
    clear hck hs hn hy hh hd hN1 hg2 hB1 hx1 b1 hB hx hz2 hzz hlt1
    generalize hg : w1.heap.size = g at *
    generalize ((w1.alloc (Obj.cells #[.int .i64 0, .int .i64 0, .int .i64 0, .int .i64 0] 34)).setRow g (bdC ⟨s, y, h, d⟩)) = wk at *
    clear hg
    go_loopw [16] (fun i wr => ∃ (k : Nat) (p : Int), k ≤ l.length ∧ i = .int .i64 k ∧ Below w.heap.size w wr ∧ BB wr g ⟨s, p, h, d⟩ ∧ BB wr w.heap.size bd0 ∧ Hid (belF s (l.drop k) p = r)) (fun i _ => l.length - (intOf i).toNat)
    case atStart => exact ⟨0, y, by omega, rfl, hB2, hg1, hx2, hr0⟩
    case round =>
      obtain ⟨k, p, hk, rfl, hb, hbb, hbx, hr⟩ := hrel
      clear hB2 hg1 hx2
      by_cases hlt : k < l.length
      · rcases h2 with h2 | ⟨b, o, rfl, hbl, hc⟩
        · rw [h2] at hlt; simp at hlt
        have hlt' : (k : Int) < l.length := by omega
        have c0 : wr.cell? ⟨b, o + k * 4, none⟩ = some (.int .i64 l[k].s) := (hb.cell hbl).trans (hc k hlt 0 _ rfl)
        have c1 : wr.cell? ⟨b, o + k * 4 + 1, none⟩ = some (.int .i64 l[k].y) := (hb.cell hbl).trans (hc k hlt 1 _ rfl)
        have c2 : wr.cell? ⟨b, o + k * 4 + 2, none⟩ = some (.int .i64 l[k].h) := (hb.cell hbl).trans (hc k hlt 2 _ rfl)
        have c3 : wr.cell? ⟨b, o + k * 4 + 3, none⟩ = some (.int .i64 l[k].w) := (hb.cell hbl).trans (hc k hlt 3 _ rfl)
        obtain ⟨_, ⟨o1, o2⟩, ⟨o3, o4⟩, ⟨o5, o6⟩⟩ := hok.get k hlt
        have hr2 : Hid (belF s (l.drop (k + 1)) (if l[k].s = s then max p (l[k].y + l[k].h) else p) = r) := by
          have := hr.out
          rw [drop_at hlt] at this
          exact this
        clear hc hr hr0 hok
        generalize l[k].s = x0 at *
        generalize l[k].y = x1 at *
        generalize l[k].h = x2 at *
        generalize l[k].w = x3 at *
        by_cases d0 : x0 = s
        · subst d0
          have e1 : wr.cell? ⟨g, 1, none⟩ = some (.int .i64 p) := hbb.c1
          have ez : wr.frozen? ⟨g, 1, none⟩ = false := hbb.z1
          have hbT : Hid (∀ (y' : Int), Below w.heap.size w (wr.setCell ⟨g, 1, none⟩ (.int .i64 y')).drew ∧ BB (wr.setCell ⟨g, 1, none⟩ (.int .i64 y')).drew g ⟨x0, y', h, d⟩ ∧ BB (wr.setCell ⟨g, 1, none⟩ (.int .i64 y')).drew w.heap.size bd0) := fun y' => by
            have ht := Turns.setCell (X := fun j => j = g) wr (p := ⟨g, 1, none⟩) rfl (.int .i64 y')
            have hne' := hne.out
            exact ⟨below_drewN (hb.trans (ht.below hb.size (fun j hj => by omega))) 1, ⟨(hbb.setY y').row⟩, ⟨(hbx.turns ht (by omega)).row⟩⟩
          clear hbb hbx
          by_cases dm : p < x1 + x2
          · have hn : Hid (belF x0 (l.drop (k + 1)) (x1 + x2) = r) := (by have := hr2.out; rw [if_pos rfl, (by omega : max p (x1 + x2) = x1 + x2)] at this; exact this : belF x0 (l.drop (k + 1)) (x1 + x2) = r)
            clear hr2
            go_wp2_with fail
            go_region
            all_goals go_wp2_with fail
            exact ⟨⟨k + 1, x1 + x2, by omega, by simp, (hbT.out _).1, (hbT.out _).2.1, (hbT.out _).2.2, hn⟩, by simp [intOf]; omega⟩
          · have hn : Hid (belF x0 (l.drop (k + 1)) p = r) := (by have := hr2.out; rw [if_pos rfl, (by omega : max p (x1 + x2) = p)] at this; exact this : belF x0 (l.drop (k + 1)) p = r)
            clear hr2
            go_wp2_with fail
            go_region
            all_goals go_wp2_with fail
            exact ⟨⟨k + 1, p, by omega, by simp, (hbT.out _).1, (hbT.out _).2.1, (hbT.out _).2.2, hn⟩, by simp [intOf]; omega⟩
        · have hn : Hid (belF s (l.drop (k + 1)) p = r) := (by have := hr2.out; rw [if_neg d0] at this; exact this : belF s (l.drop (k + 1)) p = r)
          clear hr2
          go_wp2_with fail
          go_roundw
          case rel => exact ⟨k + 1, p, by omega, by simp, hb, hbb, hbx, hn⟩
          case measure => simp [intOf]; omega
      · have hn : p = r := by
          have := hr.out
          rw [List.drop_eq_nil_of_le (by omega)] at this
          exact this
        have hge : ¬ (k : Int) < l.length := by omega
        have hrow : wr.heap[g]? = some (.cells #[.int .i64 s, .int .i64 p, .int .i64 h, .int .i64 d] 34 (0, 0)) := hbb.row
        have hrx : wr.heap[w.heap.size]? = some (.cells (bdC bd0) 34 (0, 0)) := hbx.row
        clear hr hr0 h2 hbb hbx hok hne
        subst hn
        go_wp2_with (first | (refine wpList_load_row rfl 34 _ rfl g rfl 34 _ (0, 0) _ hrow Try.underlying34 rfl (info34 ⟨s, p, h, d⟩) ?_) | (refine wpList_store_row rfl 34 _ _ rfl w.heap.size (bdC ⟨s, p, h, d⟩) rfl rfl 34 _ hrx (info34 _) rfl (bdC_one _) ?_))
        refine bodyPost_ret (results_cell_row2 rfl _ _ w.heap.size 34 (bdC ⟨s, p, h, d⟩) (0, 0) _ rfl (setRow_heap _ _ _ _ 34 _ hrx) Try.underlying34 rfl (info34 _)) rfl ⟨rfl, below_row hb hb.size (Nat.le_refl _) _⟩
  · skip
    go_enter Try.func16, Try.ntmps16
    go_wp2_with (first | (go_at_call 12; refine (hck _ hB).mono ?_; rintro e w1 ⟨rfl, b1⟩; have hx1 := hx.below b1 hx.lt; have hB1 := hB.trans (b1.mono hB.size); obtain ⟨hg1, hg2⟩ := boxed w1 ⟨s, y, h, ((n - 10) / 2)⟩; have hlt1 := hx1.lt; have hN1 := BB.new w1 bd0) | (go_at_call 26; (with_reducible refine (hs _).mono ?_); rintro e w' ⟨rfl, hw⟩; subst w') | (go_at_call 22; (first | with_reducible refine (hn _).mono ?_ | with_reducible refine (hy _).mono ?_ | with_reducible refine (hh _).mono ?_ | with_reducible refine (hd _).mono ?_); rintro e w' ⟨rfl, hw⟩; subst w') | (refine wpList_store_row rfl 34 _ _ rfl w1.heap.size (bdC ⟨s, y, h, ((n - 10) / 2)⟩) rfl rfl 34 _ hN1.row (info34 _) rfl (bdC_one _) ?_))
    have hB2 := hB1.trans (hg2.mono hB1.size)
    have hx2 := hx1.below hg2 hlt1
    have hz2 := b1.size
    have hzz : (w.alloc (.cells (bdC bd0) 34)).heap.size = w.heap.size + 1 := World.size_alloc _ _
    have hne : Hid (w.heap.size < w1.heap.size) := (by omega : w.heap.size < w1.heap.size)
    clear hck hs hn hy hh hd hN1 hg2 hB1 hx1 b1 hB hx hz2 hzz hlt1
    generalize hg : w1.heap.size = g at *
    generalize ((w1.alloc (Obj.cells #[.int .i64 0, .int .i64 0, .int .i64 0, .int .i64 0] 34)).setRow g (bdC ⟨s, y, h, ((n - 10) / 2)⟩)) = wk at *
    clear hg
    go_loopw [16] (fun i wr => ∃ (k : Nat) (p : Int), k ≤ l.length ∧ i = .int .i64 k ∧ Below w.heap.size w wr ∧ BB wr g ⟨s, p, h, ((n - 10) / 2)⟩ ∧ BB wr w.heap.size bd0 ∧ Hid (belF s (l.drop k) p = r)) (fun i _ => l.length - (intOf i).toNat)
    case atStart => exact ⟨0, y, by omega, rfl, hB2, hg1, hx2, hr0⟩
    case round =>
      obtain ⟨k, p, hk, rfl, hb, hbb, hbx, hr⟩ := hrel
      clear hB2 hg1 hx2
      by_cases hlt : k < l.length
      · rcases h2 with h2 | ⟨b, o, rfl, hbl, hc⟩
        · rw [h2] at hlt; simp at hlt
        have hlt' : (k : Int) < l.length := by omega
        have c0 : wr.cell? ⟨b, o + k * 4, none⟩ = some (.int .i64 l[k].s) := (hb.cell hbl).trans (hc k hlt 0 _ rfl)
        have c1 : wr.cell? ⟨b, o + k * 4 + 1, none⟩ = some (.int .i64 l[k].y) := (hb.cell hbl).trans (hc k hlt 1 _ rfl)
        have c2 : wr.cell? ⟨b, o + k * 4 + 2, none⟩ = some (.int .i64 l[k].h) := (hb.cell hbl).trans (hc k hlt 2 _ rfl)
        have c3 : wr.cell? ⟨b, o + k * 4 + 3, none⟩ = some (.int .i64 l[k].w) := (hb.cell hbl).trans (hc k hlt 3 _ rfl)
        obtain ⟨_, ⟨o1, o2⟩, ⟨o3, o4⟩, ⟨o5, o6⟩⟩ := hok.get k hlt
        have hr2 : Hid (belF s (l.drop (k + 1)) (if l[k].s = s then max p (l[k].y + l[k].h) else p) = r) := by
          have := hr.out
          rw [drop_at hlt] at this
          exact this
        clear hc hr hr0 hok
        generalize l[k].s = x0 at *
        generalize l[k].y = x1 at *
        generalize l[k].h = x2 at *
        generalize l[k].w = x3 at *
        by_cases d0 : x0 = s
        · subst d0
          have e1 : wr.cell? ⟨g, 1, none⟩ = some (.int .i64 p) := hbb.c1
          have ez : wr.frozen? ⟨g, 1, none⟩ = false := hbb.z1
          have hbT : Hid (∀ (y' : Int), Below w.heap.size w (wr.setCell ⟨g, 1, none⟩ (.int .i64 y')).drew ∧ BB (wr.setCell ⟨g, 1, none⟩ (.int .i64 y')).drew g ⟨x0, y', h, ((n - 10) / 2)⟩ ∧ BB (wr.setCell ⟨g, 1, none⟩ (.int .i64 y')).drew w.heap.size bd0) := fun y' => by
            have ht := Turns.setCell (X := fun j => j = g) wr (p := ⟨g, 1, none⟩) rfl (.int .i64 y')
            have hne' := hne.out
            exact ⟨below_drewN (hb.trans (ht.below hb.size (fun j hj => by omega))) 1, ⟨(hbb.setY y').row⟩, ⟨(hbx.turns ht (by omega)).row⟩⟩
          clear hbb hbx
          by_cases dm : p < x1 + x2
          · have hn : Hid (belF x0 (l.drop (k + 1)) (x1 + x2) = r) := (by have := hr2.out; rw [if_pos rfl, (by omega : max p (x1 + x2) = x1 + x2)] at this; exact this : belF x0 (l.drop (k + 1)) (x1 + x2) = r)
            clear hr2
            go_wp2_with fail
            go_region
            all_goals go_wp2_with fail
            exact ⟨⟨k + 1, x1 + x2, by omega, by simp, (hbT.out _).1, (hbT.out _).2.1, (hbT.out _).2.2, hn⟩, by simp [intOf]; omega⟩
          · have hn : Hid (belF x0 (l.drop (k + 1)) p = r) := (by have := hr2.out; rw [if_pos rfl, (by omega : max p (x1 + x2) = p)] at this; exact this : belF x0 (l.drop (k + 1)) p = r)
            clear hr2
            go_wp2_with fail
            go_region
            all_goals go_wp2_with fail
            exact ⟨⟨k + 1, p, by omega, by simp, (hbT.out _).1, (hbT.out _).2.1, (hbT.out _).2.2, hn⟩, by simp [intOf]; omega⟩
        · have hn : Hid (belF s (l.drop (k + 1)) p = r) := (by have := hr2.out; rw [if_neg d0] at this; exact this : belF s (l.drop (k + 1)) p = r)
          clear hr2
          go_wp2_with fail
          go_roundw
          case rel => exact ⟨k + 1, p, by omega, by simp, hb, hbb, hbx, hn⟩
          case measure => simp [intOf]; omega
      · have hn : p = r := by
          have := hr.out
          rw [List.drop_eq_nil_of_le (by omega)] at this
          exact this
        have hge : ¬ (k : Int) < l.length := by omega
        have hrow : wr.heap[g]? = some (.cells #[.int .i64 s, .int .i64 p, .int .i64 h, .int .i64 ((n - 10) / 2)] 34 (0, 0)) := hbb.row
        have hrx : wr.heap[w.heap.size]? = some (.cells (bdC bd0) 34 (0, 0)) := hbx.row
        clear hr hr0 h2 hbb hbx hok hne
        subst hn
        go_wp2_with (first | (refine wpList_load_row rfl 34 _ rfl g rfl 34 _ (0, 0) _ hrow Try.underlying34 rfl (info34 ⟨s, p, h, ((n - 10) / 2)⟩) ?_) | (refine wpList_store_row rfl 34 _ _ rfl w.heap.size (bdC ⟨s, p, h, ((n - 10) / 2)⟩) rfl rfl 34 _ hrx (info34 _) rfl (bdC_one _) ?_))
        refine bodyPost_ret (results_cell_row2 rfl _ _ w.heap.size 34 (bdC ⟨s, p, h, ((n - 10) / 2)⟩) (0, 0) _ rfl (setRow_heap _ _ _ _ 34 _ hrx) Try.underlying34 rfl (info34 _)) rfl ⟨rfl, below_row hb hb.size (Nat.le_refl _) _⟩
  · skip
    go_enter Try.func16, Try.ntmps16
    go_wp2_with (first | (go_at_call 12; refine (hck _ hB).mono ?_; rintro e w1 ⟨rfl, b1⟩; have hx1 := hx.below b1 hx.lt; have hB1 := hB.trans (b1.mono hB.size); obtain ⟨hg1, hg2⟩ := boxed w1 ⟨s, y, h, d⟩; have hlt1 := hx1.lt; have hN1 := BB.new w1 bd0) | (go_at_call 26; (with_reducible refine (hs _).mono ?_); rintro e w' ⟨rfl, hw⟩; subst w') | (go_at_call 22; (first | with_reducible refine (hn _).mono ?_ | with_reducible refine (hy _).mono ?_ | with_reducible refine (hh _).mono ?_ | with_reducible refine (hd _).mono ?_); rintro e w' ⟨rfl, hw⟩; subst w') | (refine wpList_store_row rfl 34 _ _ rfl w1.heap.size (bdC ⟨s, y, h, d⟩) rfl rfl 34 _ hN1.row (info34 _) rfl (bdC_one _) ?_))
    have hB2 := hB1.trans (hg2.mono hB1.size)
    have hx2 := hx1.below hg2 hlt1
    have hz2 := b1.size
    have hzz : (w.alloc (.cells (bdC bd0) 34)).heap.size = w.heap.size + 1 := World.size_alloc _ _
    have hne : Hid (w.heap.size < w1.heap.size) := (by omega : w.heap.size < w1.heap.size)
    clear hck hs hn hy hh hd hN1 hg2 hB1 hx1 b1 hB hx hz2 hzz hlt1
    generalize hg : w1.heap.size = g at *
    generalize ((w1.alloc (Obj.cells #[.int .i64 0, .int .i64 0, .int .i64 0, .int .i64 0] 34)).setRow g (bdC ⟨s, y, h, d⟩)) = wk at *
    clear hg
    go_loopw [16] (fun i wr => ∃ (k : Nat) (p : Int), k ≤ l.length ∧ i = .int .i64 k ∧ Below w.heap.size w wr ∧ BB wr g ⟨s, p, h, d⟩ ∧ BB wr w.heap.size bd0 ∧ Hid (belF s (l.drop k) p = r)) (fun i _ => l.length - (intOf i).toNat)
    case atStart => exact ⟨0, y, by omega, rfl, hB2, hg1, hx2, hr0⟩
    case round =>
      obtain ⟨k, p, hk, rfl, hb, hbb, hbx, hr⟩ := hrel
      clear hB2 hg1 hx2
      by_cases hlt : k < l.length
      · rcases h2 with h2 | ⟨b, o, rfl, hbl, hc⟩
        · rw [h2] at hlt; simp at hlt
        have hlt' : (k : Int) < l.length := by omega
        have c0 : wr.cell? ⟨b, o + k * 4, none⟩ = some (.int .i64 l[k].s) := (hb.cell hbl).trans (hc k hlt 0 _ rfl)
        have c1 : wr.cell? ⟨b, o + k * 4 + 1, none⟩ = some (.int .i64 l[k].y) := (hb.cell hbl).trans (hc k hlt 1 _ rfl)
        have c2 : wr.cell? ⟨b, o + k * 4 + 2, none⟩ = some (.int .i64 l[k].h) := (hb.cell hbl).trans (hc k hlt 2 _ rfl)
        have c3 : wr.cell? ⟨b, o + k * 4 + 3, none⟩ = some (.int .i64 l[k].w) := (hb.cell hbl).trans (hc k hlt 3 _ rfl)
        obtain ⟨_, ⟨o1, o2⟩, ⟨o3, o4⟩, ⟨o5, o6⟩⟩ := hok.get k hlt
        have hr2 : Hid (belF s (l.drop (k + 1)) (if l[k].s = s then max p (l[k].y + l[k].h) else p) = r) := by
          have := hr.out
          rw [drop_at hlt] at this
          exact this
        clear hc hr hr0 hok
        generalize l[k].s = x0 at *
        generalize l[k].y = x1 at *
        generalize l[k].h = x2 at *
        generalize l[k].w = x3 at *
        by_cases d0 : x0 = s
        · subst d0
          have e1 : wr.cell? ⟨g, 1, none⟩ = some (.int .i64 p) := hbb.c1
          have ez : wr.frozen? ⟨g, 1, none⟩ = false := hbb.z1
          have hbT : Hid (∀ (y' : Int), Below w.heap.size w (wr.setCell ⟨g, 1, none⟩ (.int .i64 y')).drew ∧ BB (wr.setCell ⟨g, 1, none⟩ (.int .i64 y')).drew g ⟨x0, y', h, d⟩ ∧ BB (wr.setCell ⟨g, 1, none⟩ (.int .i64 y')).drew w.heap.size bd0) := fun y' => by
            have ht := Turns.setCell (X := fun j => j = g) wr (p := ⟨g, 1, none⟩) rfl (.int .i64 y')
            have hne' := hne.out
            exact ⟨below_drewN (hb.trans (ht.below hb.size (fun j hj => by omega))) 1, ⟨(hbb.setY y').row⟩, ⟨(hbx.turns ht (by omega)).row⟩⟩
          clear hbb hbx
          by_cases dm : p < x1 + x2
          · have hn : Hid (belF x0 (l.drop (k + 1)) (x1 + x2) = r) := (by have := hr2.out; rw [if_pos rfl, (by omega : max p (x1 + x2) = x1 + x2)] at this; exact this : belF x0 (l.drop (k + 1)) (x1 + x2) = r)
            clear hr2
            go_wp2_with fail
            go_region
            all_goals go_wp2_with fail
            exact ⟨⟨k + 1, x1 + x2, by omega, by simp, (hbT.out _).1, (hbT.out _).2.1, (hbT.out _).2.2, hn⟩, by simp [intOf]; omega⟩
          · have hn : Hid (belF x0 (l.drop (k + 1)) p = r) := (by have := hr2.out; rw [if_pos rfl, (by omega : max p (x1 + x2) = p)] at this; exact this : belF x0 (l.drop (k + 1)) p = r)
            clear hr2
            go_wp2_with fail
            go_region
            all_goals go_wp2_with fail
            exact ⟨⟨k + 1, p, by omega, by simp, (hbT.out _).1, (hbT.out _).2.1, (hbT.out _).2.2, hn⟩, by simp [intOf]; omega⟩
        · have hn : Hid (belF s (l.drop (k + 1)) p = r) := (by have := hr2.out; rw [if_neg d0] at this; exact this : belF s (l.drop (k + 1)) p = r)
          clear hr2
          go_wp2_with fail
          go_roundw
          case rel => exact ⟨k + 1, p, by omega, by simp, hb, hbb, hbx, hn⟩
          case measure => simp [intOf]; omega
      · have hn : p = r := by
          have := hr.out
          rw [List.drop_eq_nil_of_le (by omega)] at this
          exact this
        have hge : ¬ (k : Int) < l.length := by omega
        have hrow : wr.heap[g]? = some (.cells #[.int .i64 s, .int .i64 p, .int .i64 h, .int .i64 d] 34 (0, 0)) := hbb.row
        have hrx : wr.heap[w.heap.size]? = some (.cells (bdC bd0) 34 (0, 0)) := hbx.row
        clear hr hr0 h2 hbb hbx hok hne
        subst hn
        go_wp2_with (first | (refine wpList_load_row rfl 34 _ rfl g rfl 34 _ (0, 0) _ hrow Try.underlying34 rfl (info34 ⟨s, p, h, d⟩) ?_) | (refine wpList_store_row rfl 34 _ _ rfl w.heap.size (bdC ⟨s, p, h, d⟩) rfl rfl 34 _ hrx (info34 _) rfl (bdC_one _) ?_))
        refine bodyPost_ret (results_cell_row2 rfl _ _ w.heap.size 34 (bdC ⟨s, p, h, d⟩) (0, 0) _ rfl (setRow_heap _ _ _ _ 34 _ hrx) Try.underlying34 rfl (info34 _)) rfl ⟨rfl, below_row hb hb.size (Nat.le_refl _) _⟩
set_option maxRecDepth 100000 in
set_option maxHeartbeats 4000000 in
theorem rput_any (v : Value) (l : List Bd) (n s y h d : Int) (hl : l.length ≤ 9223372036854775807) (w : World) (hS : RecAt 4 bdL w v l) :
    Calls Try.prog 16 #[.int .i64 n, v, .int .i64 s, .int .i64 y, .int .i64 h, .int .i64 d] w fun e w' => e = .returned (.tuple #[bdV (putB n l s y h d), .int .i64 (putE n l s y h d)]) ∧ Below w.heap.size w w' := by
  have hB := (Below.refl w.heap.size w).alloc (Nat.le_refl _) (.cells (bdC bd0) 34)
  have hx0 : (w.alloc (.cells (bdC bd0) 34)).heap[w.heap.size]? = some (.cells (bdC bd0) 34 (0, 0)) := heap_new _ _
  have hz : (w.alloc (.cells (bdC bd0) 34)).heap.size = w.heap.size + 1 := World.size_alloc _ _
  have hx : Hid (∀ W, Below (w.alloc (.cells (bdC bd0) 34)).heap.size (w.alloc (.cells (bdC bd0) 34)) W → W.heap[w.heap.size]? = some (.cells (bdC bd0) 34 (0, 0))) := fun W hW => (hW.block _ (by rw [hz]; exact Nat.lt_succ_self _)).trans hx0
  have hck : ∀ W, Below w.heap.size w W → Calls Try.prog 12 #[v] W fun e w' => e = .returned (.int .i64 (ckI l)) ∧ Below W.heap.size W w' := fun W hW => rcheck_any v l hl W (hS.below hW (Nat.le_refl _))
  have hs := side_any s
  have hn := within_any n
  have hy := within_any y
  have hh := within_any h
  have hd := within_any d
  clear hx0
  by_cases h0 : ckI l = 0
  · rw [h0] at hck
    have hok := ckI_ok h0
    rcases ds : sdB s with _ | _
    · rw [ds] at hs
      rw [(putE_side h0 ds).1, (putE_side h0 ds).2]
      obtain ⟨a, cap, rfl, -⟩ := hS.ex
      clear hS h0 hok ds hn hy hh hd
      go_enter Try.func16, Try.ntmps16
      go_wp2_with (first | (go_at_call 12; refine (hck _ hB).mono ?_; rintro e w1 ⟨rfl, b1⟩; have hx1 := hx.out w1 b1; have hB1 := hB.trans (b1.mono hB.size)) | (go_at_call 26; (with_reducible refine (hs _).mono ?_); rintro e w' ⟨rfl, hw⟩; subst w') | (go_at_call 22; (first | with_reducible refine (hn _).mono ?_ | with_reducible refine (hy _).mono ?_ | with_reducible refine (hh _).mono ?_ | with_reducible refine (hd _).mono ?_); rintro e w' ⟨rfl, hw⟩; subst w') | (refine wpList_store_row rfl 34 _ _ rfl w.heap.size (bdC bd0) rfl rfl 34 _ hx1 (info34 _) rfl (bdC_one _) ?_))
      refine bodyPost_ret (results_cell_row2 rfl _ _ w.heap.size 34 (bdC bd0) (0, 0) _ rfl (setRow_heap _ _ _ _ 34 _ hx1) Try.underlying34 rfl (info34 bd0)) rfl ⟨rfl, below_row hB1 hB1.size (Nat.le_refl _) _⟩
    rw [ds] at hs
    rcases d1 : inB n with _ | _
    · have e := putE_out (y := y) (h := h) (d := d) h0 ds (fun g => by rw [d1] at g; simp at g)
      rw [d1] at hn
      rw [e.1, e.2]
      obtain ⟨a, cap, rfl, -⟩ := hS.ex
      clear hS h0 hok ds e d1 hy hh hd
      go_enter Try.func16, Try.ntmps16
      go_wp2_with (first | (go_at_call 12; refine (hck _ hB).mono ?_; rintro e w1 ⟨rfl, b1⟩; have hx1 := hx.out w1 b1; have hB1 := hB.trans (b1.mono hB.size)) | (go_at_call 26; (with_reducible refine (hs _).mono ?_); rintro e w' ⟨rfl, hw⟩; subst w') | (go_at_call 22; (first | with_reducible refine (hn _).mono ?_ | with_reducible refine (hy _).mono ?_ | with_reducible refine (hh _).mono ?_ | with_reducible refine (hd _).mono ?_); rintro e w' ⟨rfl, hw⟩; subst w') | (refine wpList_store_row rfl 34 _ _ rfl w.heap.size (bdC bd0) rfl rfl 34 _ hx1 (info34 _) rfl (bdC_one _) ?_))
      refine bodyPost_ret (results_cell_row2 rfl _ _ w.heap.size 34 (bdC bd0) (0, 0) _ rfl (setRow_heap _ _ _ _ 34 _ hx1) Try.underlying34 rfl (info34 bd0)) rfl ⟨rfl, below_row hB1 hB1.size (Nat.le_refl _) _⟩
    rcases d2 : inB y with _ | _
    · have e := putE_out (n := n) (h := h) (d := d) h0 ds (fun g => by rw [d2] at g; simp at g)
      rw [d1] at hn
      rw [d2] at hy
      rw [e.1, e.2]
      obtain ⟨a, cap, rfl, -⟩ := hS.ex
      clear hS h0 hok ds e d1 d2 hh hd
      go_enter Try.func16, Try.ntmps16
      go_wp2_with (first | (go_at_call 12; refine (hck _ hB).mono ?_; rintro e w1 ⟨rfl, b1⟩; have hx1 := hx.out w1 b1; have hB1 := hB.trans (b1.mono hB.size)) | (go_at_call 26; (with_reducible refine (hs _).mono ?_); rintro e w' ⟨rfl, hw⟩; subst w') | (go_at_call 22; (first | with_reducible refine (hn _).mono ?_ | with_reducible refine (hy _).mono ?_ | with_reducible refine (hh _).mono ?_ | with_reducible refine (hd _).mono ?_); rintro e w' ⟨rfl, hw⟩; subst w') | (refine wpList_store_row rfl 34 _ _ rfl w.heap.size (bdC bd0) rfl rfl 34 _ hx1 (info34 _) rfl (bdC_one _) ?_))
      refine bodyPost_ret (results_cell_row2 rfl _ _ w.heap.size 34 (bdC bd0) (0, 0) _ rfl (setRow_heap _ _ _ _ 34 _ hx1) Try.underlying34 rfl (info34 bd0)) rfl ⟨rfl, below_row hB1 hB1.size (Nat.le_refl _) _⟩
    rcases d3 : inB h with _ | _
    · have e := putE_out (n := n) (y := y) (d := d) h0 ds (fun g => by rw [d3] at g; simp at g)
      rw [d1] at hn
      rw [d2] at hy
      rw [d3] at hh
      rw [e.1, e.2]
      obtain ⟨a, cap, rfl, -⟩ := hS.ex
      clear hS h0 hok ds e d1 d2 d3 hd
      go_enter Try.func16, Try.ntmps16
      go_wp2_with (first | (go_at_call 12; refine (hck _ hB).mono ?_; rintro e w1 ⟨rfl, b1⟩; have hx1 := hx.out w1 b1; have hB1 := hB.trans (b1.mono hB.size)) | (go_at_call 26; (with_reducible refine (hs _).mono ?_); rintro e w' ⟨rfl, hw⟩; subst w') | (go_at_call 22; (first | with_reducible refine (hn _).mono ?_ | with_reducible refine (hy _).mono ?_ | with_reducible refine (hh _).mono ?_ | with_reducible refine (hd _).mono ?_); rintro e w' ⟨rfl, hw⟩; subst w') | (refine wpList_store_row rfl 34 _ _ rfl w.heap.size (bdC bd0) rfl rfl 34 _ hx1 (info34 _) rfl (bdC_one _) ?_))
      refine bodyPost_ret (results_cell_row2 rfl _ _ w.heap.size 34 (bdC bd0) (0, 0) _ rfl (setRow_heap _ _ _ _ 34 _ hx1) Try.underlying34 rfl (info34 bd0)) rfl ⟨rfl, below_row hB1 hB1.size (Nat.le_refl _) _⟩
    rcases d4 : inB d with _ | _
    · have e := putE_out (n := n) (y := y) (h := h) h0 ds (fun g => by rw [d4] at g; simp at g)
      rw [d1] at hn
      rw [d2] at hy
      rw [d3] at hh
      rw [d4] at hd
      rw [e.1, e.2]
      obtain ⟨a, cap, rfl, -⟩ := hS.ex
      clear hS h0 hok ds e d1 d2 d3 d4
      go_enter Try.func16, Try.ntmps16
      go_wp2_with (first | (go_at_call 12; refine (hck _ hB).mono ?_; rintro e w1 ⟨rfl, b1⟩; have hx1 := hx.out w1 b1; have hB1 := hB.trans (b1.mono hB.size)) | (go_at_call 26; (with_reducible refine (hs _).mono ?_); rintro e w' ⟨rfl, hw⟩; subst w') | (go_at_call 22; (first | with_reducible refine (hn _).mono ?_ | with_reducible refine (hy _).mono ?_ | with_reducible refine (hh _).mono ?_ | with_reducible refine (hd _).mono ?_); rintro e w' ⟨rfl, hw⟩; subst w') | (refine wpList_store_row rfl 34 _ _ rfl w.heap.size (bdC bd0) rfl rfl 34 _ hx1 (info34 _) rfl (bdC_one _) ?_))
      refine bodyPost_ret (results_cell_row2 rfl _ _ w.heap.size 34 (bdC bd0) (0, 0) _ rfl (setRow_heap _ _ _ _ 34 _ hx1) Try.underlying34 rfl (info34 bd0)) rfl ⟨rfl, below_row hB1 hB1.size (Nat.le_refl _) _⟩
    have e := putE_in h0 ds ⟨d1, d2, d3, d4⟩
    rw [e.1, e.2]
    rw [d1] at hn
    rw [d2] at hy
    rw [d3] at hh
    rw [d4] at hd
    obtain ⟨n1, n2⟩ := inB_get d1
    obtain ⟨y1, y2⟩ := inB_get d2
    obtain ⟨h1, h2⟩ := inB_get d3
    obtain ⟨t1, t2⟩ := inB_get d4
    obtain ⟨a, cap, rfl, -⟩ := hS.ex
    exact rput_ok a l cap n s y h d hok ⟨n1, n2⟩ ⟨y1, y2⟩ ⟨h1, h2⟩ ⟨t1, t2⟩ w hS hck hs hn hy hh hd
  · have e := putE_no (n := n) (s := s) (y := y) (h := h) (d := d) h0
    rw [e.1, e.2]
    have h0' : (ckI l == 0) = false := by simpa using h0
    obtain ⟨a, cap, rfl, -⟩ := hS.ex
    clear hS h0 e hs hn hy hh hd
    generalize ckI l = z at *
    go_enter Try.func16, Try.ntmps16
    go_wp2_with (first | (go_at_call 12; refine (hck _ hB).mono ?_; rintro e w1 ⟨rfl, b1⟩; have hx1 := hx.out w1 b1; have hB1 := hB.trans (b1.mono hB.size)) | (go_at_call 26; (with_reducible refine (hs _).mono ?_); rintro e w' ⟨rfl, hw⟩; subst w') | (go_at_call 22; (first | with_reducible refine (hn _).mono ?_ | with_reducible refine (hy _).mono ?_ | with_reducible refine (hh _).mono ?_ | with_reducible refine (hd _).mono ?_); rintro e w' ⟨rfl, hw⟩; subst w') | (refine wpList_store_row rfl 34 _ _ rfl w.heap.size (bdC bd0) rfl rfl 34 _ hx1 (info34 _) rfl (bdC_one _) ?_))
    refine bodyPost_ret (results_cell_row2 rfl _ _ w.heap.size 34 (bdC bd0) (0, 0) _ rfl (setRow_heap _ _ _ _ 34 _ hx1) Try.underlying34 rfl (info34 bd0)) rfl ⟨rfl, below_row hB1 hB1.size (Nat.le_refl _) _⟩

end Go.Proofs.Ythdlhikpjpfpeaa
