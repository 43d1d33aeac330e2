/-
  What is proved here: which slot a line has, as the document tells it.
-/
import Derived.Test.YthdlhikpjpfpeaaSlot
namespace Go.Proofs.Ythdlhikpjpfpeaa
open Go.RowKit Go.Shelf

set_option maxRecDepth 100000 in
set_option maxHeartbeats 4000000 in
theorem rslot_any (v : Value) (l : List Bd) (n y m : Int) (hok : Ok l) (hn : inB n = true) (hy : 0 ≤ y ∧ y ≤ 100000) (hm : 1 ≤ m ∧ m ≤ 255) (w : World) (hS : RecAt 4 bdL w v l) :
    Calls Try.prog 23 #[.int .i64 n, v, .int .i64 y, .int .i64 m] w fun e w' => e = .returned (slV (sloS n l y m)) ∧ Below w.heap.size w w' := by
  have hB := (Below.refl w.heap.size w).alloc (Nat.le_refl _) (.cells (slC sl0) 43)
  have hx : Hid ((w.alloc (.cells (slC sl0) 43)).heap[w.heap.size]? = some (.cells (slC sl0) 43 (0, 0))) := heap_new _ _
  have hz : (w.alloc (.cells (slC sl0) 43)).heap.size = w.heap.size + 1 := World.size_alloc _ _
  have hl := hok.1
  have hS1 := hS.below hB (Nat.le_refl _)
  obtain ⟨a, cap, rfl, h2⟩ := hS1.ex
  clear hS hS1
  obtain ⟨L1, L2⟩ := widF_rng 0 y (y + m) l 0 hok (by omega) (by omega)
  obtain ⟨R1, R2⟩ := widF_rng 2 y (y + m) l 0 hok (by omega) (by omega)
  obtain ⟨n1, n2⟩ := inB_get hn
  have hL0 : Hid (widF 0 y (y + m) (l.drop 0) 0 = widF 0 y (y + m) l 0) := rfl
  have hR0 : Hid (widF 2 y (y + m) (l.drop 0) 0 = widF 2 y (y + m) l 0) := rfl
  unfold sloS
  clear hn
  generalize widF 0 y (y + m) l 0 = L at *
  generalize widF 2 y (y + m) l 0 = R at *
  generalize hw0 : w.alloc (.cells (slC sl0) 43) = w0 at *
  have hBh : Hid (Below w.heap.size w w0) := hB
  have hzh : Hid (w0.heap.size = w.heap.size + 1) := hz
  have hyh : Hid (0 ≤ y ∧ y ≤ 100000) := hy
  have hmh : Hid (1 ≤ m ∧ m ≤ 255) := hm
  obtain ⟨y1, y2⟩ := hy
  obtain ⟨m1, m2⟩ := hm
  clear hB hz
  go_enter Try.func23, Try.ntmps23
  go_wp2_with fail
  change Code.wp _ _ _ _ (w.alloc (.cells (slC sl0) 43))
  rw [hw0]
  go_loopw [9, 10, 11] (fun p u i wr => ∃ (k : Nat) (pp uu : Int), k ≤ l.length ∧ p = .int .i64 pp ∧ u = .int .i64 uu ∧ i = .int .i64 k ∧ Below w0.heap.size w0 wr ∧ Hid (widF 0 y (y + m) (l.drop k) pp = L) ∧ Hid (widF 2 y (y + m) (l.drop k) uu = R)) (fun _ _ i _ => l.length - (intOf i).toNat)
  case atStart => exact ⟨0, 0, 0, by omega, rfl, rfl, rfl, Below.refl _ _, hL0, hR0⟩
  case round =>
    obtain ⟨k, p, u, hk, rfl, rfl, rfl, hb, hL, hR⟩ := hrel
    by_cases hlt : k < l.length
    · rcases h2 with h2 | ⟨b, o, rfl, hbl, hc⟩
      · rw [h2] at hlt; simp at hlt
      · have hlt' : (k : Int) < l.length := by omega
        have c0 : wr.cell? ⟨b, o + k * 4, none⟩ = some (.int .i64 l[k].s) := (hb.cell hbl).trans (hc k hlt 0 _ rfl)
        have c1 : wr.cell? ⟨b, o + k * 4 + 1, none⟩ = some (.int .i64 l[k].y) := (hb.cell hbl).trans (hc k hlt 1 _ rfl)
        have c2 : wr.cell? ⟨b, o + k * 4 + 2, none⟩ = some (.int .i64 l[k].h) := (hb.cell hbl).trans (hc k hlt 2 _ rfl)
        have c3 : wr.cell? ⟨b, o + k * 4 + 3, none⟩ = some (.int .i64 l[k].w) := (hb.cell hbl).trans (hc k hlt 3 _ rfl)
        have hg := hok.get k hlt
        have hL2 : Hid (widF 0 y (y + m) (l.drop (k + 1)) (if l[k].s = 0 ∧ bsB y (y + m) l[k] = true then max p l[k].w else p) = L) := by
          have := hL.out
          rw [drop_at hlt] at this
          exact this
        have hR2 : Hid (widF 2 y (y + m) (l.drop (k + 1)) (if l[k].s = 2 ∧ bsB y (y + m) l[k] = true then max u l[k].w else u) = R) := by
          have := hR.out
          rw [drop_at hlt] at this
          exact this
        have hbs := rbeside_any l[k] y m hyh.out hmh.out hg.2.1 hg.2.2.1
        have hkeep : Hid (∀ W, Below wr.heap.size wr W → W.cell? ⟨b, o + k * 4, none⟩ = some (.int .i64 l[k].s) ∧ W.cell? ⟨b, o + k * 4 + 1, none⟩ = some (.int .i64 l[k].y) ∧ W.cell? ⟨b, o + k * 4 + 2, none⟩ = some (.int .i64 l[k].h) ∧ W.cell? ⟨b, o + k * 4 + 3, none⟩ = some (.int .i64 l[k].w)) := fun W hW => by
          have hlb : b < wr.heap.size := Nat.lt_of_lt_of_le hbl hb.size
          exact ⟨(hW.cell hlb).trans c0, (hW.cell hlb).trans c1, (hW.cell hlb).trans c2, (hW.cell hlb).trans c3⟩
        obtain ⟨hsd, _⟩ := hg
        clear hc hL hR hL0 hR0 hok hyh hmh
        generalize bsB y (y + m) l[k] = q at *
        generalize l[k].s = x0 at *
        generalize l[k].y = x1 at *
        generalize l[k].h = x2 at *
        generalize l[k].w = x3 at *
        rcases hsd with rfl | rfl
        · rcases q with _ | _
          · skip
            have hn0 : Hid (widF 0 y (y + m) (l.drop (k + 1)) p = L) := (by have := hL2.out; rw [if_neg (by simp)] at this; exact this : widF 0 y (y + m) (l.drop (k + 1)) p = L)
            have hn2 : Hid (widF 2 y (y + m) (l.drop (k + 1)) u = R) := (by have := hR2.out; rw [if_neg (by simp)] at this; exact this : widF 2 y (y + m) (l.drop (k + 1)) u = R)
            clear hL2 hR2
            go_wp2_with fail
            (with_reducible refine (hbs _).mono ?_)
            rintro e w2 ⟨rfl, b2⟩
            have hB2 := hb.trans (b2.mono hb.size)
            obtain ⟨d0, d1, d2, d3⟩ := hkeep.out w2 b2
            have hk2 := hkeep.out
            clear hkeep c0 c1 c2 c3
            go_wp2_with fail
            (with_reducible refine (hbs _).mono ?_)
            rintro e w3 ⟨rfl, b3⟩
            have hB3 := hB2.trans (b3.mono hB2.size)
            obtain ⟨c0, c1, c2, c3⟩ := hk2 w3 (b2.trans (b3.mono b2.size))
            clear d0 d1 d2 d3 hk2 hbs b2 b3
            go_wp2_with fail
            go_roundw
            case rel => exact ⟨k + 1, p, u, by omega, rfl, rfl, by simp, hB3, hn0, hn2⟩
            case measure => simp [intOf]; omega
          · skip
            by_cases dm : p < x3
            · have hn0 : Hid (widF 0 y (y + m) (l.drop (k + 1)) x3 = L) := (by have := hL2.out; rw [if_pos ⟨rfl, rfl⟩, (by omega : max p x3 = x3)] at this; exact this : widF 0 y (y + m) (l.drop (k + 1)) x3 = L)
              have hn2 : Hid (widF 2 y (y + m) (l.drop (k + 1)) u = R) := (by have := hR2.out; rw [if_neg (by simp)] at this; exact this : widF 2 y (y + m) (l.drop (k + 1)) u = R)
              clear hL2 hR2
              go_wp2_with fail
              (with_reducible refine (hbs _).mono ?_)
              rintro e w2 ⟨rfl, b2⟩
              have hB2 := hb.trans (b2.mono hb.size)
              obtain ⟨d0, d1, d2, d3⟩ := hkeep.out w2 b2
              have hk2 := hkeep.out
              clear hkeep c0 c1 c2 c3
              go_wp2_with fail
              (with_reducible refine (hbs _).mono ?_)
              rintro e w3 ⟨rfl, b3⟩
              have hB3 := hB2.trans (b3.mono hB2.size)
              obtain ⟨c0, c1, c2, c3⟩ := hk2 w3 (b2.trans (b3.mono b2.size))
              clear d0 d1 d2 d3 hk2 hbs b2 b3
              go_wp2_with fail
              go_roundw
              case rel => exact ⟨k + 1, x3, u, by omega, rfl, rfl, by simp, hB3, hn0, hn2⟩
              case measure => simp [intOf]; omega
            · have hn0 : Hid (widF 0 y (y + m) (l.drop (k + 1)) p = L) := (by have := hL2.out; rw [if_pos ⟨rfl, rfl⟩, (by omega : max p x3 = p)] at this; exact this : widF 0 y (y + m) (l.drop (k + 1)) p = L)
              have hn2 : Hid (widF 2 y (y + m) (l.drop (k + 1)) u = R) := (by have := hR2.out; rw [if_neg (by simp)] at this; exact this : widF 2 y (y + m) (l.drop (k + 1)) u = R)
              clear hL2 hR2
              go_wp2_with fail
              (with_reducible refine (hbs _).mono ?_)
              rintro e w2 ⟨rfl, b2⟩
              have hB2 := hb.trans (b2.mono hb.size)
              obtain ⟨d0, d1, d2, d3⟩ := hkeep.out w2 b2
              have hk2 := hkeep.out
              clear hkeep c0 c1 c2 c3
              go_wp2_with fail
              (with_reducible refine (hbs _).mono ?_)
              rintro e w3 ⟨rfl, b3⟩
              have hB3 := hB2.trans (b3.mono hB2.size)
              obtain ⟨c0, c1, c2, c3⟩ := hk2 w3 (b2.trans (b3.mono b2.size))
              clear d0 d1 d2 d3 hk2 hbs b2 b3
              go_wp2_with fail
              go_roundw
              case rel => exact ⟨k + 1, p, u, by omega, rfl, rfl, by simp, hB3, hn0, hn2⟩
              case measure => simp [intOf]; omega
        · rcases q with _ | _
          · skip
            have hn0 : Hid (widF 0 y (y + m) (l.drop (k + 1)) p = L) := (by have := hL2.out; rw [if_neg (by simp)] at this; exact this : widF 0 y (y + m) (l.drop (k + 1)) p = L)
            have hn2 : Hid (widF 2 y (y + m) (l.drop (k + 1)) u = R) := (by have := hR2.out; rw [if_neg (by simp)] at this; exact this : widF 2 y (y + m) (l.drop (k + 1)) u = R)
            clear hL2 hR2
            go_wp2_with fail
            (with_reducible refine (hbs _).mono ?_)
            rintro e w2 ⟨rfl, b2⟩
            have hB2 := hb.trans (b2.mono hb.size)
            obtain ⟨d0, d1, d2, d3⟩ := hkeep.out w2 b2
            have hk2 := hkeep.out
            clear hkeep c0 c1 c2 c3
            go_wp2_with fail
            (with_reducible refine (hbs _).mono ?_)
            rintro e w3 ⟨rfl, b3⟩
            have hB3 := hB2.trans (b3.mono hB2.size)
            obtain ⟨c0, c1, c2, c3⟩ := hk2 w3 (b2.trans (b3.mono b2.size))
            clear d0 d1 d2 d3 hk2 hbs b2 b3
            go_wp2_with fail
            go_roundw
            case rel => exact ⟨k + 1, p, u, by omega, rfl, rfl, by simp, hB3, hn0, hn2⟩
            case measure => simp [intOf]; omega
          · skip
            by_cases dm : u < x3
            · have hn0 : Hid (widF 0 y (y + m) (l.drop (k + 1)) p = L) := (by have := hL2.out; rw [if_neg (by simp)] at this; exact this : widF 0 y (y + m) (l.drop (k + 1)) p = L)
              have hn2 : Hid (widF 2 y (y + m) (l.drop (k + 1)) x3 = R) := (by have := hR2.out; rw [if_pos ⟨rfl, rfl⟩, (by omega : max u x3 = x3)] at this; exact this : widF 2 y (y + m) (l.drop (k + 1)) x3 = R)
              clear hL2 hR2
              go_wp2_with fail
              (with_reducible refine (hbs _).mono ?_)
              rintro e w2 ⟨rfl, b2⟩
              have hB2 := hb.trans (b2.mono hb.size)
              obtain ⟨d0, d1, d2, d3⟩ := hkeep.out w2 b2
              have hk2 := hkeep.out
              clear hkeep c0 c1 c2 c3
              go_wp2_with fail
              (with_reducible refine (hbs _).mono ?_)
              rintro e w3 ⟨rfl, b3⟩
              have hB3 := hB2.trans (b3.mono hB2.size)
              obtain ⟨c0, c1, c2, c3⟩ := hk2 w3 (b2.trans (b3.mono b2.size))
              clear d0 d1 d2 d3 hk2 hbs b2 b3
              go_wp2_with fail
              go_roundw
              case rel => exact ⟨k + 1, p, x3, by omega, rfl, rfl, by simp, hB3, hn0, hn2⟩
              case measure => simp [intOf]; omega
            · have hn0 : Hid (widF 0 y (y + m) (l.drop (k + 1)) p = L) := (by have := hL2.out; rw [if_neg (by simp)] at this; exact this : widF 0 y (y + m) (l.drop (k + 1)) p = L)
              have hn2 : Hid (widF 2 y (y + m) (l.drop (k + 1)) u = R) := (by have := hR2.out; rw [if_pos ⟨rfl, rfl⟩, (by omega : max u x3 = u)] at this; exact this : widF 2 y (y + m) (l.drop (k + 1)) u = R)
              clear hL2 hR2
              go_wp2_with fail
              (with_reducible refine (hbs _).mono ?_)
              rintro e w2 ⟨rfl, b2⟩
              have hB2 := hb.trans (b2.mono hb.size)
              obtain ⟨d0, d1, d2, d3⟩ := hkeep.out w2 b2
              have hk2 := hkeep.out
              clear hkeep c0 c1 c2 c3
              go_wp2_with fail
              (with_reducible refine (hbs _).mono ?_)
              rintro e w3 ⟨rfl, b3⟩
              have hB3 := hB2.trans (b3.mono hB2.size)
              obtain ⟨c0, c1, c2, c3⟩ := hk2 w3 (b2.trans (b3.mono b2.size))
              clear d0 d1 d2 d3 hk2 hbs b2 b3
              go_wp2_with fail
              go_roundw
              case rel => exact ⟨k + 1, p, u, by omega, rfl, rfl, by simp, hB3, hn0, hn2⟩
              case measure => simp [intOf]; omega
    · have hn0 : p = L := by
        have := hL.out
        rw [List.drop_eq_nil_of_le (by omega)] at this
        exact this
      have hn2 : u = R := by
        have := hR.out
        rw [List.drop_eq_nil_of_le (by omega)] at this
        exact this
      have hge : ¬ (k : Int) < l.length := by omega
      subst hn0 hn2
      have hx2 : wr.heap[w.heap.size]? = some (.cells (slC sl0) 43 (0, 0)) := (hb.block _ (by rw [hzh.out]; exact Nat.lt_succ_self _)).trans hx.out
      have hB2 := hBh.out.trans (hb.mono hBh.out.size)
      clear hL hR hL0 hR0 h2 hx hb
      by_cases d : n - p - u < 0
      · go_wp2_with (refine wpList_store_row rfl 43 _ _ rfl w.heap.size (slC ⟨p, 0⟩) rfl rfl 43 _ hx2 (info43 _) rfl (slC_one _) ?_)
        refine bodyPost_ret (results_cell_row rfl _ _ w.heap.size 43 (slC ⟨p, 0⟩) (0, 0) _ rfl (setRow_heap _ _ _ _ 43 _ hx2) Try.underlying43 rfl (info43 _)) rfl ⟨sl_ret n p u 0 (by omega), below_row hB2 hB2.size (Nat.le_refl _) _⟩
      · go_wp2_with (refine wpList_store_row rfl 43 _ _ rfl w.heap.size (slC ⟨p, n - p - u⟩) rfl rfl 43 _ hx2 (info43 _) rfl (slC_one _) ?_)
        refine bodyPost_ret (results_cell_row rfl _ _ w.heap.size 43 (slC ⟨p, n - p - u⟩) (0, 0) _ rfl (setRow_heap _ _ _ _ 43 _ hx2) Try.underlying43 rfl (info43 _)) rfl ⟨sl_ret n p u _ (by omega), below_row hB2 hB2.size (Nat.le_refl _) _⟩

end Go.Proofs.Ythdlhikpjpfpeaa
