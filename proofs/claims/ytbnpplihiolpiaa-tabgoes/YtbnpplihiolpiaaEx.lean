/-
  What is proved here: the chapter's stops; next, lands and awake of the statements answer true.
-/
import Derived.Test.YtbnpplihiolpiaaLand
namespace Go.Proofs.Ytbnpplihiolpiaa
open Go.RowKit Go.Shelf

def exL : List St := [⟨30, 0⟩, ⟨100, 2⟩, ⟨200, 3⟩]

set_option maxRecDepth 100000 in
theorem example_any (w : World) : Calls Try.prog 13 #[] w fun e w' => ∃ v, e = .returned v ∧ RecAt 2 stL w' v exL ∧ Below w.heap.size w w' := by
  have hr := rec_new (k := 2) stL_len w 24 exL
  have hB := (Below.refl w.heap.size w).alloc (Nat.le_refl _) (.cells (exL.flatMap stL).toArray 24)
  go_enter Try.func13, Try.ntmps13
  go_wp2_with fail
  go_ret
  exact ⟨_, rfl, hr, hB⟩

set_option maxRecDepth 100000 in
set_option maxHeartbeats 2000000 in
theorem is_next (v : Value) (l : List St) (x : Int) (s : St) (hl : l.length ≤ 9223372036854775807) (h0 : nxE l x = 0) (h1 : nxS l x = s) (w : World) (hS : RecAt 2 stL w v l) :
    Calls Try.prog 14 #[v, .int .i64 x, stV s] w fun e w' => e = .returned (.bool true) ∧ Below w.heap.size w w' := by
  have hB := (Below.refl w.heap.size w).alloc (Nat.le_refl _) (.cells (stC s) 24)
  have hsb := SB.new w s
  have hnx := next_any v l x hl _ (hS.below hB (Nat.le_refl _))
  rw [h0, h1] at hnx
  have hsz : (w.alloc (.cells (stC s) 24)).heap.size = w.heap.size + 1 := World.size_alloc _ _
  obtain ⟨a, cap, rfl, _⟩ := hS.ex
  obtain ⟨za, zk⟩ := s
  clear hS h0 h1
  unfold stV at hnx ⊢
  go_enter Try.func14, Try.ntmps14
  go_wp2_with fail
  refine hnx.mono ?_
  rintro e w1 ⟨rfl, b1⟩
  have hB1 := hB.trans (b1.mono hB.size)
  have hs1 := hsb.below b1 hsb.lt
  have hz1 := b1.size
  have hB2 := hB1.alloc hB1.size (.cells (stC ⟨0, 0⟩) 24)
  have hs2 := hs1.below ((Below.refl w1.heap.size w1).alloc (Nat.le_refl _) (.cells (stC ⟨0, 0⟩) 24)) hs1.lt
  have hlt := hs1.lt
  have hs3 : SB ((w1.alloc (Obj.cells #[.int .i64 0, .int .i64 0] 24)).setRow w1.heap.size (stC ⟨za, zk⟩)) w.heap.size ⟨za, zk⟩ := ⟨(setRow_other _ _ _ _ (by omega)).trans hs2.row⟩
  have hs4 : SB ((w1.alloc (Obj.cells #[.int .i64 0, .int .i64 0] 24)).setRow w1.heap.size (stC ⟨za, zk⟩)) w1.heap.size ⟨za, zk⟩ := (SB.new w1 ⟨0, 0⟩).set _
  have hB3 : Below w.heap.size w ((w1.alloc (Obj.cells #[.int .i64 0, .int .i64 0] 24)).setRow w1.heap.size (stC ⟨za, zk⟩)) := below_row hB2 hB2.size (by omega) _
  clear hnx hB hsb hB1 hs1 hB2 hs2 b1
  go_wp2_with (refine wpList_store_row rfl 24 _ _ rfl w1.heap.size (stC ⟨za, zk⟩) rfl rfl 24 _ (SB.new w1 ⟨0, 0⟩).row (info24 _) rfl (stC_one _) ?_; generalize ((w1.alloc (Obj.cells #[.int .i64 0, .int .i64 0] 24)).setRow w1.heap.size (stC ⟨za, zk⟩)) = w2 at *; have c0 : w2.cell? ⟨w1.heap.size, 0, none⟩ = some (.int .i64 za) := hs4.c0; have c1 : w2.cell? ⟨w1.heap.size, 1, none⟩ = some (.int .i64 zk) := hs4.c1; have d0 : w2.cell? ⟨w.heap.size, 0, none⟩ = some (.int .i64 za) := hs3.c0; have d1 : w2.cell? ⟨w.heap.size, 1, none⟩ = some (.int .i64 zk) := hs3.c1)
  go_ret
  exact ⟨rfl, hB3⟩

set_option maxRecDepth 100000 in
set_option maxHeartbeats 2000000 in
theorem is_land (v : Value) (l : List St) (x n y : Int) (hl : l.length ≤ 9223372036854775807) (h0 : ldE l x n = 0) (h1 : ldV l x n = y) (w : World) (hS : RecAt 2 stL w v l) :
    Calls Try.prog 15 #[v, .int .i64 x, .int .i64 n, .int .i64 y] w fun e w' => e = .returned (.bool true) ∧ Below w.heap.size w w' := by
  have hnx := land_any v l x n hl _ hS
  rw [h0, h1] at hnx
  obtain ⟨a, cap, rfl, _⟩ := hS.ex
  clear hS h0 h1
  go_enter Try.func15, Try.ntmps15
  go_wp2_with fail
  refine hnx.mono ?_
  rintro e w1 ⟨rfl, b1⟩
  go_wp2_with fail
  go_ret
  exact ⟨rfl, b1⟩

theorem ex_next : (nxE exL 30 = 0 ∧ nxS exL 30 = ⟨100, 2⟩) ∧ (nxE exL 0 = 0 ∧ nxS exL 0 = ⟨30, 0⟩) ∧ (nxE exL 200 = 0 ∧ nxS exL 200 = ⟨240, 0⟩) ∧ (nxE [] 47 = 0 ∧ nxS [] 47 = ⟨48, 0⟩) ∧ (nxE [] 48 = 0 ∧ nxS [] 48 = ⟨96, 0⟩) := ⟨⟨rfl, rfl⟩, ⟨rfl, rfl⟩, ⟨rfl, rfl⟩, ⟨rfl, rfl⟩, ⟨rfl, rfl⟩⟩
theorem ex_land : (ldE exL 30 20 = 0 ∧ ldV exL 30 20 = 80) ∧ (ldE exL 90 20 = 0 ∧ ldV exL 90 20 = 90) ∧ (ldE exL 100 21 = 0 ∧ ldV exL 100 21 = 190) ∧ (ldE exL 0 500 = 0 ∧ ldV exL 0 500 = 30) := ⟨⟨rfl, rfl⟩, ⟨rfl, rfl⟩, ⟨rfl, rfl⟩, ⟨rfl, rfl⟩⟩

set_option maxRecDepth 100000 in
set_option maxHeartbeats 2000000 in
theorem awake_any (w : World) : Calls Try.prog 12 #[] w fun e w' => e = .returned (.bool true) ∧ Below w.heap.size w w' := by
  go_enter Try.func12, Try.ntmps12
  go_wp2_with fail
  refine (example_any w).mono ?_
  rintro e w1 ⟨v, rfl, hR, b1⟩
  go_wp2_with fail
  refine (is_next v exL 30 ⟨100, 2⟩ (by decide) ex_next.1.1 ex_next.1.2 w1 hR).mono ?_
  rintro e w2 ⟨rfl, b2⟩
  have hB := b1.trans (b2.mono b1.size)
  go_wp2_with fail
  go_ret
  exact ⟨rfl, hB⟩

theorem ck1 : ckI [⟨30, 0⟩, ⟨30, 0⟩] = 2 ∧ ckI [⟨0, 0⟩] = 2 ∧ ckI [⟨9, 1⟩] = 2 := ⟨rfl, rfl, rfl⟩
theorem er1 : nxE [] (-1) = 5 ∧ nxS [] (-1) = ⟨0, 0⟩ ∧ ldE [] 0 9000 = 5 ∧ ldV [] 0 9000 = 0 := ⟨rfl, rfl, rfl, rfl⟩

set_option maxRecDepth 100000 in
set_option maxHeartbeats 4000000 in
theorem known_any (w : World) : Calls Try.prog 4 #[] w fun e w' => e = .returned (.bool true) ∧ Below w.heap.size w w' := by
  have hn := fun W => next_any (.slice none 0 0) [] (-1) (by decide) W (RecAt.nil W 0)
  rw [er1.1, er1.2.1] at hn
  unfold stV at hn
  have hl := fun W => land_any (.slice none 0 0) [] 0 9000 (by decide) W (RecAt.nil W 0)
  rw [er1.2.2.1, er1.2.2.2] at hl
  go_enter Try.func4, Try.ntmps4
  go_wp2_with fail
  refine (example_any w).mono ?_
  rintro e x0 ⟨v, rfl, hR0, B0⟩
  obtain ⟨a, cap, rfl, _⟩ := hR0.ex
  go_wp2_with fail
  refine (awake_any x0).mono ?_
  rintro e x1 ⟨rfl, b1⟩
  have B1 := B0.trans (b1.mono B0.size)
  have hR1 := hR0.below b1 (Nat.le_refl _)
  clear b1 B0 hR0
  go_wp2_with fail
  refine (is_next _ exL 0 ⟨30, 0⟩ (by decide) ex_next.2.1.1 ex_next.2.1.2 x1 hR1).mono ?_
  rintro e x2 ⟨rfl, b2⟩
  have B2 := B1.trans (b2.mono B1.size)
  have hR2 := hR1.below b2 (Nat.le_refl _)
  clear b2 B1 hR1
  go_wp2_with fail
  refine (is_next _ exL 200 ⟨240, 0⟩ (by decide) ex_next.2.2.1.1 ex_next.2.2.1.2 x2 hR2).mono ?_
  rintro e x3 ⟨rfl, b3⟩
  have B3 := B2.trans (b3.mono B2.size)
  have hR3 := hR2.below b3 (Nat.le_refl _)
  clear b3 B2 hR2
  go_wp2_with fail
  refine (is_next _ [] 47 ⟨48, 0⟩ (by decide) ex_next.2.2.2.1.1 ex_next.2.2.2.1.2 x3 (RecAt.nil _ _)).mono ?_
  rintro e x4 ⟨rfl, b4⟩
  have B4 := B3.trans (b4.mono B3.size)
  have hR4 := hR3.below b4 (Nat.le_refl _)
  clear b4 B3 hR3
  go_wp2_with fail
  refine (is_next _ [] 48 ⟨96, 0⟩ (by decide) ex_next.2.2.2.2.1 ex_next.2.2.2.2.2 x4 (RecAt.nil _ _)).mono ?_
  rintro e x5 ⟨rfl, b5⟩
  have B5 := B4.trans (b5.mono B4.size)
  have hR5 := hR4.below b5 (Nat.le_refl _)
  clear b5 B4 hR4
  go_wp2_with fail
  refine (is_land _ exL 30 20 80 (by decide) ex_land.1.1 ex_land.1.2 x5 hR5).mono ?_
  rintro e x6 ⟨rfl, b6⟩
  have B6 := B5.trans (b6.mono B5.size)
  have hR6 := hR5.below b6 (Nat.le_refl _)
  clear b6 B5 hR5
  go_wp2_with fail
  refine (is_land _ exL 90 20 90 (by decide) ex_land.2.1.1 ex_land.2.1.2 x6 hR6).mono ?_
  rintro e x7 ⟨rfl, b7⟩
  have B7 := B6.trans (b7.mono B6.size)
  have hR7 := hR6.below b7 (Nat.le_refl _)
  clear b7 B6 hR6
  go_wp2_with fail
  refine (is_land _ exL 100 21 190 (by decide) ex_land.2.2.1.1 ex_land.2.2.1.2 x7 hR7).mono ?_
  rintro e x8 ⟨rfl, b8⟩
  have B8 := B7.trans (b8.mono B7.size)
  have hR8 := hR7.below b8 (Nat.le_refl _)
  clear b8 B7 hR7
  go_wp2_with fail
  refine (is_land _ exL 0 500 30 (by decide) ex_land.2.2.2.1 ex_land.2.2.2.2 x8 hR8).mono ?_
  rintro e x9 ⟨rfl, b9⟩
  have B9 := B8.trans (b9.mono B8.size)
  clear b9 B8 hR8
  go_wp2_with fail
  refine (hn x9).mono ?_
  rintro e y1 ⟨rfl, b10⟩
  have B10 := (B9.trans (b10.mono B9.size)).alloc (B9.trans (b10.mono B9.size)).size (.cells #[.int .i64 0, .int .i64 0] 24)
  clear b10 B9 hn
  go_wp2_with fail
  refine (hl _).mono ?_
  rintro e y2 ⟨rfl, b11⟩
  have B11 := B10.trans (b11.mono B10.size)
  clear b11 B10 hl
  go_wp2_with fail
  have k1 := check_any _ [⟨30, 0⟩, ⟨30, 0⟩] (by decide) _ (rec_new (k := 2) stL_len y2 24 [⟨30, 0⟩, ⟨30, 0⟩])
  rw [ck1.1] at k1
  refine k1.mono ?_
  rintro e y3 ⟨rfl, b12⟩
  have B12 := B11.trans ((((Below.refl y2.heap.size y2).alloc (Nat.le_refl _) (.cells (List.flatMap stL [⟨30, 0⟩, ⟨30, 0⟩]).toArray 24)).trans (b12.mono (by simp))).mono B11.size)
  clear b12 B11 k1
  go_wp2_with fail
  have k2 := check_any _ [⟨0, 0⟩] (by decide) _ (rec_new (k := 2) stL_len y3 24 [⟨0, 0⟩])
  rw [ck1.2.1] at k2
  refine k2.mono ?_
  rintro e y4 ⟨rfl, b13⟩
  have B13 := B12.trans ((((Below.refl y3.heap.size y3).alloc (Nat.le_refl _) (.cells (List.flatMap stL [⟨0, 0⟩]).toArray 24)).trans (b13.mono (by simp))).mono B12.size)
  clear b13 B12 k2
  go_wp2_with fail
  have k3 := check_any _ [⟨9, 1⟩] (by decide) _ (rec_new (k := 2) stL_len y4 24 [⟨9, 1⟩])
  rw [ck1.2.2] at k3
  refine k3.mono ?_
  rintro e y5 ⟨rfl, b14⟩
  have B14 := B13.trans ((((Below.refl y4.heap.size y4).alloc (Nat.le_refl _) (.cells (List.flatMap stL [⟨9, 1⟩]).toArray 24)).trans (b14.mono (by simp))).mono B13.size)
  clear b14 B13 k3
  go_wp2_with fail
  go_ret
  exact ⟨rfl, B14⟩
end Go.Proofs.Ytbnpplihiolpiaa
