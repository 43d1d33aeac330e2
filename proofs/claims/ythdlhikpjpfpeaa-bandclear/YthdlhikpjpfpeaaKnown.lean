/-
  What is proved here: BandKnown answers true.
-/
import Derived.Test.YthdlhikpjpfpeaaAwake
import Derived.BigQuiet
namespace Go.Proofs.Ythdlhikpjpfpeaa
open Go.RowKit Go.Shelf

def exC : Bd := ⟨2, 5, 10, 20⟩
theorem ex_two : slsE 100 [exB, exC] 0 12 2 = 0 ∧ slsL 100 [exB, exC] 0 12 2 = [⟨30, 50⟩, ⟨30, 50⟩] := by constructor <;> kernel_rfl
theorem ex_bad : slsE 100 [exB] 0 0 1 = 5 ∧ slsL 100 [exB] 0 0 1 = [] := by constructor <;> kernel_rfl
theorem ex_put1 : putE 100 [exB] 0 5 10 40 = 0 ∧ putB 100 [exB] 0 5 10 40 = ⟨0, 20, 10, 40⟩ := by constructor <;> kernel_rfl
theorem ex_put2 : putE 100 [exB] 2 5 10 90 = 0 ∧ putB 100 [exB] 2 5 10 90 = ⟨2, 5, 10, 45⟩ := by constructor <;> kernel_rfl
theorem ex_put3 : putE 100 [exB] 1 5 10 40 = 2 ∧ putB 100 [exB] 1 5 10 40 = ⟨0, 0, 0, 0⟩ := by constructor <;> kernel_rfl
theorem ex_clr1 : clrE [exB] 5 = 0 ∧ clrV [exB] 5 = 20 := by constructor <;> kernel_rfl
theorem ex_clr2 : clrE [exB] 30 = 0 ∧ clrV [exB] 30 = 30 := by constructor <;> kernel_rfl
theorem ex_ck : ckI [⟨3, 0, 0, 0⟩] = 2 := by kernel_rfl
theorem info34i : (Try.prog.info? 34).map (fun i => (i.zero, i.size, i.bytes)) = some (some (.agg #[.int .i64 0, .int .i64 0, .int .i64 0, .int .i64 0]), 4, 32) := by kernel_rfl
theorem src_bd (w : World) (q : Bd) : Srcs (w.alloc (.cells (bdC q) 34)) 4 (.slice (some ⟨w.heap.size, 0, none⟩) 1 1) 1 (bdL q) := by
  have := rec_srcs bdL_len bdL_one (by decide) (rec_new bdL_len w 34 [q])
  simpa [bdC, bdL] using this
theorem lit_bd (w : World) (q : Bd) : RecAt 4 bdL (w.alloc (.cells (bdC q) 34)) (.slice (some ⟨w.heap.size, 0, none⟩) 1 1) [q] := by
  have := rec_new bdL_len w 34 [q]
  simpa [bdL, bdC] using this
set_option maxRecDepth 100000 in
set_option maxHeartbeats 4000000 in
theorem known_any (w : World) : Calls Try.prog 6 #[] w fun e w' => e = .returned (.bool true) ∧ Below w.heap.size w w' := by
  obtain ⟨i0, hi, hz0, hz1, hz2⟩ := info_parts info34i
  have hput := fun v s h d W h1 => put_any v [exB] 100 s 5 h d (by decide) W h1
  have p1 := fun v W (h1 : RecAt 4 bdL W v [exB]) => hput v 0 10 40 W h1
  have p2 := fun v W (h1 : RecAt 4 bdL W v [exB]) => hput v 2 10 90 W h1
  have p3 := fun v W (h1 : RecAt 4 bdL W v [exB]) => hput v 1 10 40 W h1
  rw [ex_put1.1, ex_put1.2] at p1
  rw [ex_put2.1, ex_put2.2] at p2
  rw [ex_put3.1, ex_put3.2] at p3
  have q1 := fun v W (h1 : RecAt 4 bdL W v [exB]) => clear_any v [exB] 5 (by decide) W h1
  have q2 := fun v W (h1 : RecAt 4 bdL W v [exB]) => clear_any v [exB] 30 (by decide) W h1
  rw [ex_clr1.1, ex_clr1.2] at q1
  rw [ex_clr2.1, ex_clr2.2] at q2
  clear hput
  have he := example_any w
  go_enter Try.func6, Try.ntmps6
  go_wp2_with fail
  refine he.mono ?_
  rintro e w1 ⟨⟨v, rfl, hr⟩, b1⟩
  have S1 := rec_one hr
  clear he hr
  have he := example_any w1
  go_wp2_with fail
  refine he.mono ?_
  rintro e w2 ⟨⟨u, rfl, hr⟩, b2⟩
  have B2 := b1.trans (b2.mono b1.size)
  have S2 := S1.below b2 (Nat.le_refl _)
  have B2a := B2.alloc B2.size (.cells (bdC exC) 34)
  have hra := hr.alloc (.cells (bdC exC) 34)
  have S2a := S2.below ((Below.refl w2.heap.size w2).alloc (Nat.le_refl _) (.cells (bdC exC) 34)) (Nat.le_refl _)
  clear he
  go_wp2_with (at_builtin; refine wpList_append_any _ rfl _ _ 22 rfl w1.heap.size 34 i0 _ 4 32 Try.underlying22 hi hz0 hz1 hz2 rfl (by decide) _ 1 (bdL exB) rfl (by exact hra) 1 _ _ rfl (by exact src_bd w2 exC) (by unfold maxLen; omega) (by omega) (by have := b2.size; simp; omega) ?_; intro v' w3 hown hgrow)
  have B3 : Below w.heap.size w w3 := below_grown B2a hra (Nat.le_refl _) b1.size hgrow
  have b23 : Below w1.heap.size w1 w3 := below_grown (b2.alloc b2.size _) hra (Nat.le_refl _) (Nat.le_refl _) hgrow
  have S3 := S1.below b23 (Nat.le_refl _)
  have R3 : RecAt 4 bdL w3 v' [exB, exC] := rec_of_row bdL_len (n := 2) rfl (by simpa [List.flatMap_cons] using hown)
  have hs := slots_any v' [exB, exC] 100 0 12 2 (by decide) w3 R3
  clear hra hown hgrow hr S2 S2a B2a S1 b23 B2 b1 b2 R3
  go_wp2_with fail
  refine hs.mono ?_
  rintro e w4 ⟨b4, x, rfl, hx⟩
  rw [ex_two.1]
  rw [ex_two.2] at hx
  have B4 := B3.trans (b4.mono B3.size)
  have S4 := S3.below b4 (Nat.le_refl _)
  have p1' := p1 v w4 S4
  clear hs b4 S3 B3 p1
  go_wp2_with fail
  refine p1'.mono ?_
  rintro e w5 ⟨rfl, b5⟩
  obtain ⟨hb6, b6⟩ := boxed w5 ⟨0, 20, 10, 40⟩
  have b56 := b5.trans (b6.mono b5.size)
  have B6 := B4.trans (b56.mono B4.size)
  have S6 := S4.below b56 (Nat.le_refl _)
  have X6 := hx.below b56 (Nat.le_refl _)
  have hl6 := hb6.lt
  have N5 := BB.new w5 bd0
  clear p1' b5 b6 b56 B4 S4 hx
  go_wp2_with (refine wpList_store_row rfl 34 _ _ rfl w5.heap.size (bdC ⟨0, 20, 10, 40⟩) rfl rfl 34 _ N5.row (info34 _) rfl (bdC_one _) ?_)
  generalize hw6 : ((w5.alloc (Obj.cells #[.int .i64 0, .int .i64 0, .int .i64 0, .int .i64 0] 34)).setRow w5.heap.size (bdC ⟨0, 20, 10, 40⟩)) = w6 at *
  have p2' := p2 v w6 S6
  clear p2 N5 hw6
  refine p2'.mono ?_
  rintro e w7 ⟨rfl, b7⟩
  obtain ⟨hb8, b8⟩ := boxed w7 ⟨2, 5, 10, 45⟩
  have b78 := b7.trans (b8.mono b7.size)
  have B8 := B6.trans (b78.mono B6.size)
  have S8 := S6.below b78 (Nat.le_refl _)
  have X8 := X6.below b78 (Nat.le_refl _)
  have hb6' := hb6.below b78 hl6
  have hl8 := hb8.lt
  have hl6' := hb6'.lt
  have N7 := BB.new w7 bd0
  clear p2' b7 b8 b78 B6 S6 X6 hb6
  go_wp2_with (refine wpList_store_row rfl 34 _ _ rfl w7.heap.size (bdC ⟨2, 5, 10, 45⟩) rfl rfl 34 _ N7.row (info34 _) rfl (bdC_one _) ?_)
  generalize hw8 : ((w7.alloc (Obj.cells #[.int .i64 0, .int .i64 0, .int .i64 0, .int .i64 0] 34)).setRow w7.heap.size (bdC ⟨2, 5, 10, 45⟩)) = w8 at *
  generalize w5.heap.size = g5 at *
  generalize w7.heap.size = g7 at *
  have q1' := q1 v w8 S8
  clear N7 hw8 q1
  refine q1'.mono ?_
  rintro e w9 ⟨rfl, b9⟩
  have S9 := S8.below b9 (Nat.le_refl _)
  have q2' := q2 v w9 S9
  clear q1' q2
  go_wp2_with fail
  refine q2'.mono ?_
  rintro e w10 ⟨rfl, b10⟩
  have S10 := S9.below b10 (Nat.le_refl _)
  have hs := slots_any v [exB] 100 0 0 1 (by decide) w10 S10
  clear q2'
  go_wp2_with fail
  refine hs.mono ?_
  rintro e w11 ⟨b11, y, rfl, hy⟩
  rw [ex_bad.1]
  rw [ex_bad.2] at hy
  have S11 := S10.below b11 (Nat.le_refl _)
  have p3' := p3 v w11 S11
  clear hs p3 hy
  go_wp2_with fail
  refine p3'.mono ?_
  rintro e w12 ⟨rfl, b12⟩
  obtain ⟨-, b13⟩ := boxed w12 ⟨0, 0, 0, 0⟩
  have b9z := (((b9.trans (b10.mono b9.size)).trans (b11.mono (b9.trans (b10.mono b9.size)).size)))
  have b12z := b9z.trans (b12.mono b9z.size)
  have b13z := b12z.trans (b13.mono b12z.size)
  have B13 := B8.trans (b13z.mono B8.size)
  have X13 := X8.below b13z (Nat.le_refl _)
  have hb6z := hb6'.below b13z hl6'
  have hb8z := hb8.below b13z hl8
  have hl6z := hb6z.lt
  have hl8z := hb8z.lt
  have N12 := BB.new w12 bd0
  clear p3' S8 S9 S10 S11 b9 b10 b11 b12 b13 b9z b12z b13z B8 X8 hb6' hb8 hl6 hl8 hl6'
  go_wp2_with (refine wpList_store_row rfl 34 _ _ rfl w12.heap.size (bdC ⟨0, 0, 0, 0⟩) rfl rfl 34 _ N12.row (info34 _) rfl (bdC_one _) ?_)
  generalize ((w12.alloc (Obj.cells #[.int .i64 0, .int .i64 0, .int .i64 0, .int .i64 0] 34)).setRow w12.heap.size (bdC ⟨0, 0, 0, 0⟩)) = w13 at *
  clear N12
  have ha := awake_any w13
  refine ha.mono ?_
  rintro e w14 ⟨rfl, b14⟩
  have B14 := B13.trans (b14.mono B13.size)
  have hL := lit_two w14 ⟨30, 50⟩ ⟨30, 50⟩
  have b14a := b14.alloc b14.size (.cells #[.int .i64 30, .int .i64 50, .int .i64 30, .int .i64 50] 43)
  have X14 := X13.below b14a (Nat.le_refl _)
  have hq := slots_yes _ _ _ (by decide) _ X14 hL
  clear ha
  go_wp2_with fail
  refine hq.mono ?_
  rintro e w15 ⟨rfl, b15⟩
  have b15a := b14a.trans (b15.mono b14a.size)
  have B15 := B13.trans (b15a.mono B13.size)
  have r6 : w15.heap[g5]? = some (.cells #[.int .i64 0, .int .i64 20, .int .i64 10, .int .i64 40] 34 (0, 0)) := (hb6z.below b15a hl6z).row
  have r8 : w15.heap[g7]? = some (.cells #[.int .i64 2, .int .i64 5, .int .i64 10, .int .i64 45] 34 (0, 0)) := (hb8z.below b15a hl8z).row
  have hk := check_any _ _ (by decide) _ (lit_bd w15 ⟨3, 0, 0, 0⟩)
  rw [ex_ck] at hk
  have B15a := B15.alloc B15.size (.cells (bdC ⟨3, 0, 0, 0⟩) 34)
  clear hq X13 X14 hL b14a b14 b15 B13 B14 b15a hb6z hb8z
  go_wp2_with (first | (refine wpList_load_want 34 _ rfl rfl g5 rfl 34 _ (0, 0) _ r6 Try.underlying34 rfl (info34 ⟨0, 20, 10, 40⟩) ?_) | (refine wpList_load_want 34 _ rfl rfl g7 rfl 34 _ (0, 0) _ r8 Try.underlying34 rfl (info34 ⟨2, 5, 10, 45⟩) ?_) | (go_at_call 11; refine hk.mono ?_; rintro e w16 ⟨rfl, b16⟩; have B16 := B15a.trans (b16.mono B15a.size)))
  go_ret
  exact ⟨rfl, B16⟩

end Go.Proofs.Ythdlhikpjpfpeaa
