/-
  What is proved here: the greatest width of bands beside a line.
-/
import Derived.Test.YthdlhikpjpfpeaaBelow
namespace Go.Proofs.Ythdlhikpjpfpeaa
open Go.RowKit Go.Shelf

set_option maxRecDepth 100000 in
set_option maxHeartbeats 2000000 in
theorem widest_any (v : Value) (l : List Bd) (s f t : Int) (hok : Ok l) (w : World) (hS : RecAt 4 bdL w v l) :
    Calls Try.prog 28 #[v, .int .i64 s, .int .i64 f, .int .i64 t] w fun e w' => e = .returned (.int .i64 (widF s f t l 0)) ∧ Below w.heap.size w w' := by
  have hl := hok.1
  obtain ⟨a, cap, rfl, h2⟩ := hS.ex
  clear hS
  have hr0 : Hid (widF s f t (l.drop 0) 0 = widF s f t l 0) := rfl
  generalize widF s f t l 0 = r at hr0 ⊢
  go_enter Try.func28, Try.ntmps28
  go_wp2_with fail
  go_loopw [9, 14] (fun u i wr => ∃ (k : Nat) (p : Int), k ≤ l.length ∧ u = .int .i64 p ∧ i = .int .i64 k ∧ Below w.heap.size w wr ∧ Hid (widF s f t (l.drop k) p = r)) (fun _ i _ => l.length - (intOf i).toNat)
  case atStart => exact ⟨0, 0, by omega, rfl, rfl, Below.refl _ _, hr0⟩
  case round =>
    obtain ⟨k, p, hk, rfl, rfl, hb, hr⟩ := hrel
    by_cases hlt : k < l.length
    · rcases h2 with h2 | ⟨b, o, rfl, hbl, hc⟩
      · rw [h2] at hlt; simp at hlt
      · have hlt' : (k : Int) < l.length := by omega
        have c0 : wr.cell? ⟨b, o + k * 4, none⟩ = some (.int .i64 l[k].s) := (hb.cell hbl).trans (hc k hlt 0 _ rfl)
        have c1 : wr.cell? ⟨b, o + k * 4 + 1, none⟩ = some (.int .i64 l[k].y) := (hb.cell hbl).trans (hc k hlt 1 _ rfl)
        have c2 : wr.cell? ⟨b, o + k * 4 + 2, none⟩ = some (.int .i64 l[k].h) := (hb.cell hbl).trans (hc k hlt 2 _ rfl)
        have c3 : wr.cell? ⟨b, o + k * 4 + 3, none⟩ = some (.int .i64 l[k].w) := (hb.cell hbl).trans (hc k hlt 3 _ rfl)
        have hg := hok.get k hlt
        have hr2 : Hid (widF s f t (l.drop (k + 1)) (if l[k].s = s ∧ bsB f t l[k] = true then max p l[k].w else p) = r) := by
          have := hr.out
          rw [drop_at hlt] at this
          exact this
        have hbs := beside_any l[k] f t hg.2.1 hg.2.2.1
        have hB1 := hb.alloc hb.size (Obj.cells #[.int .i64 l[k].s, .int .i64 l[k].y, .int .i64 l[k].h, .int .i64 l[k].w] 34)
        have hx : (wr.alloc (Obj.cells #[.int .i64 l[k].s, .int .i64 l[k].y, .int .i64 l[k].h, .int .i64 l[k].w] 34)).heap[wr.heap.size]? = some (Obj.cells #[.int .i64 l[k].s, .int .i64 l[k].y, .int .i64 l[k].h, .int .i64 l[k].w] 34) := heap_new _ _
        have hz : (wr.alloc (Obj.cells #[.int .i64 l[k].s, .int .i64 l[k].y, .int .i64 l[k].h, .int .i64 l[k].w] 34)).heap.size = wr.heap.size + 1 := World.size_alloc _ _
        clear hc hr hr0 hok hg
        generalize bsB f t l[k] = q at *
        generalize l[k].s = x0 at *
        generalize l[k].y = x1 at *
        generalize l[k].h = x2 at *
        generalize l[k].w = x3 at *
        by_cases d0 : x0 = s
        · subst d0
          rcases q with _ | _
          · have hn : Hid (widF x0 f t (l.drop (k + 1)) p = r) := (by have := hr2.out; rw [if_neg (by simp)] at this; exact this : widF x0 f t (l.drop (k + 1)) p = r)
            clear hr2
            go_wp2_with (first | (refine wpList_load_want 34 _ rfl rfl wr.heap.size rfl 34 _ (0, 0) _ hx Try.underlying34 rfl (info34 ⟨x0, x1, x2, x3⟩) ?_) | (go_at_call 30; (with_reducible refine (hbs _).mono ?_); rintro e w2 ⟨rfl, b2⟩))
            have hB2 := hB1.trans (b2.mono hB1.size)
            go_roundw
            case rel => exact ⟨k + 1, p, by omega, rfl, by simp, hB2, hn⟩
            case measure => simp [intOf]; omega
          · have hn : Hid (widF x0 f t (l.drop (k + 1)) (if p < x3 then x3 else p) = r) := (by have := hr2.out; rw [if_pos ⟨rfl, rfl⟩, (by split <;> omega : max p x3 = if p < x3 then x3 else p)] at this; exact this : widF x0 f t (l.drop (k + 1)) (if p < x3 then x3 else p) = r)
            clear hr2
            go_wp2_with (first | (refine wpList_load_want 34 _ rfl rfl wr.heap.size rfl 34 _ (0, 0) _ hx Try.underlying34 rfl (info34 ⟨x0, x1, x2, x3⟩) ?_) | (go_at_call 30; (with_reducible refine (hbs _).mono ?_); rintro e w2 ⟨rfl, b2⟩; have c3 : w2.cell? ⟨wr.heap.size, 3, none⟩ = some (.int .i64 x3) := by rw [b2.cell (by rw [hz]; exact Nat.lt_succ_self _), Lib.cell_of_heap hx]; rfl))
            have hB2 := hB1.trans (b2.mono hB1.size)
            go_roundw
            case rel => exact ⟨k + 1, _, by omega, rfl, by simp, hB2, hn⟩
            case measure => simp [intOf]; omega
        · have hn : Hid (widF s f t (l.drop (k + 1)) p = r) := (by have := hr2.out; rw [if_neg (fun h => d0 h.1)] at this; exact this : widF s f t (l.drop (k + 1)) p = r)
          clear hr2
          go_wp2_with fail
          go_roundw
          case rel => exact ⟨k + 1, p, by omega, rfl, by simp, hB1, hn⟩
          case measure => simp [intOf]; omega
    · have hn : p = r := by
        have := hr.out
        rw [List.drop_eq_nil_of_le (by omega)] at this
        exact this
      have hge : ¬ (k : Int) < l.length := by omega
      clear hr hr0 h2
      subst hn
      go_wp2_with fail
      go_ret
      exact ⟨rfl, hb⟩

end Go.Proofs.Ythdlhikpjpfpeaa
