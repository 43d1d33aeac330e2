/-
  What is proved here: TabGoes answers true at every input, with no condition: what lands stands at its tab or behind it, where its stop says; tabs one behind the other go on.
-/
import Derived.Test.YtbnpplihiolpiaaEx
import Derived.Test.YtbnpplihiolpiaaOpen
import Derived.ProofKit
import Derived.OpenShut
namespace Go.Proofs.Ytbnpplihiolpiaa.tabGoes
open Go.ChangeShapes Go.WideShapes Go.ChangeAt Go.RowKit Go.WideMaps Go.WideElems
open Go.ChangeMaps (open_string shut_string)



theorem boxed (W : World) (s : St) : SB ((W.alloc (Obj.cells #[.int .i64 0, .int .i64 0] 24)).setRow W.heap.size (stC s)) W.heap.size s ∧ Below W.heap.size W ((W.alloc (Obj.cells #[.int .i64 0, .int .i64 0] 24)).setRow W.heap.size (stC s)) :=
  ⟨(SB.new W ⟨0, 0⟩).set _, below_row ((Below.refl W.heap.size W).alloc (Nat.le_refl _) (.cells (stC ⟨0, 0⟩) 24)) (by simp) (Nat.le_refl _) _⟩
theorem bare_is {x n : Int} (hx : inB x = true) (hn : inB n = true) : ldE [] x n = 0 ∧ x < ldV [] x n ∧ ldV [] x n ≤ x + 48 ∧ ldV [] x n % 48 = 0 ∧ (ldV [] x n).tmod 48 = 0 := by
  have h0 : nxE [] x = 0 := (nx_ok (l := []) rfl hx).1
  have hx' : 0 ≤ x ∧ x ≤ 8190 := of_decide_eq_true hx
  have hd : x.tdiv 48 = x / 48 := Int.tdiv_eq_ediv_of_nonneg hx'.1
  have hv : ldV [] x n = (x / 48 + 1) * 48 := by
    rw [(ld_ok h0 hn).2]
    show max x ((x.tdiv 48 + 1) * 48 - 0) = _
    rw [hd]; omega
  rw [hv]
  refine ⟨(ld_ok h0 hn).1, by omega, by omega, by omega, ?_⟩
  rw [Int.tmod_eq_emod_of_nonneg (by omega)]
  omega
set_option maxRecDepth 100000 in
set_option maxHeartbeats 8000000 in
theorem walk (v : Value) (l : List St) (x n : Int) (hlen : l.length ≤ 9223372036854775807) (w : World) (hS : RecAt 2 stL w v l) :
    Calls Try.prog 5 #[v, .int .i64 x, .int .i64 n] w fun e w' => e = .returned (.bool true) ∧ Below w.heap.size w w' := by
  have hnx := fun x W h => next_any v l x hlen W h
  have hld := fun W h => land_any v l x n hlen W h
  obtain ⟨a, cap, hv, _⟩ := hS.ex
  subst hv
  go_enter Try.func5, Try.ntmps5
  go_wp2_with fail
  refine (known_any w).mono ?_
  rintro e w1 ⟨rfl, b1⟩
  have S1 := hS.below b1 (Nat.le_refl _)
  clear hS
  go_wp2_with fail
  by_cases h0 : nxE l x = 0
  · by_cases h1 : ldE l x n = 0
    · have hn : inB n = true := by
        unfold ldE at h1
        rw [if_pos h0] at h1
        split at h1
        · assumption
        · omega
      obtain ⟨hok, hx⟩ := nx_zero h0
      have hrg := first_rng hok hx
      have hn1 := hnx x w1 S1
      rw [h0, (nx_ok hok hx).2] at hn1
      have hl1 := hld
      rw [h1, (ld_ok h0 hn).2] at hl1
      have hbr := bare_is hx hn
      have hbl := fun W => land_any (.slice none 0 0) [] x n (by decide) W (RecAt.nil W 0)
      rw [hbr.1] at hbl
      have hx' : 0 ≤ x ∧ x ≤ 8190 := of_decide_eq_true hx
      have hn' : 0 ≤ n ∧ n ≤ 8190 := of_decide_eq_true hn
      have hlast : Hid (∀ W, RecAt 2 stL W (.slice a l.length cap) l → Calls Try.prog 6 #[.slice a l.length cap, .int .i64 (firstS l x).a] W fun e w' => (∃ t5, e = .returned (.tuple #[.agg #[.int .i64 (St.a t5), .int .i64 (St.k t5)], .int .i64 5]) ∨ (e = .returned (.tuple #[.agg #[.int .i64 (St.a t5), .int .i64 (St.k t5)], .int .i64 0]) ∧ (firstS l x).a < t5.a)) ∧ Below W.heap.size W w') := fun W h => by
        refine (hnx (firstS l x).a W h).mono ?_
        rintro e w' ⟨rfl, hb⟩
        refine ⟨⟨nxS l (firstS l x).a, ?_⟩, hb⟩
        by_cases hi : inB (firstS l x).a = true
        · rw [(nx_ok hok hi).1, (nx_ok hok hi).2]
          exact .inr ⟨rfl, (first_rng hok hi).1⟩
        · rw [(nx_out hok hi).1, (nx_out hok hi).2]
          exact .inl rfl
      obtain ⟨_, y1, y2, y3, y4⟩ := hbr
      generalize ldV [] x n = y at *
      clear hnx hld h0 h1 hok hx hn
      have hhg : Hid (∀ k, hgI k n = if k = 2 then n else if k = 3 then n / 2 else 0) := fun k => by
        have hdv : n.tdiv 2 = n / 2 := Int.tdiv_eq_ediv_of_nonneg hn'.1
        unfold hgI; rw [hdv]
      generalize firstS l x = z at *
      obtain ⟨za, zk⟩ := z
      obtain ⟨i1, i2⟩ := hx'
      obtain ⟨n1, n2⟩ := hn'
      obtain ⟨r1, r2, r3⟩ := hrg
      have r1' : x < za := r1
      have r2' : za ≤ 8238 := r2
      have r3' : Hid (zk = 0 ∨ zk = 2 ∨ zk = 3) := r3
      clear r1 r2 r3
      unfold stV at hn1
      refine hn1.mono ?_
      rintro e w2 ⟨rfl, b2⟩
      obtain ⟨sb3, b3⟩ := boxed w2 ⟨za, zk⟩
      have hlt3 := sb3.lt
      have B2 := b1.trans (b2.mono b1.size)
      have B3 := B2.trans (b3.mono B2.size)
      have S3 := (S1.below b2 (Nat.le_refl _)).below b3 (Nat.le_refl _)
      clear hn1
      go_wp2_with (refine wpList_store_row rfl 24 _ _ rfl w2.heap.size (stC ⟨za, zk⟩) rfl rfl 24 _ (SB.new w2 ⟨0, 0⟩).row (info24 _) rfl (stC_one _) ?_)
      generalize ((w2.alloc (Obj.cells #[.int .i64 0, .int .i64 0] 24)).setRow w2.heap.size (stC ⟨za, zk⟩)) = w3 at *
      refine (hl1 w3 S3).mono ?_
      rintro e w4 ⟨rfl, b4⟩
      have B4 := B3.trans (b4.mono B3.size)
      have S4 := S3.below b4 (Nat.le_refl _)
      have sb4 := sb3.below b4 sb3.lt
      have c0 : w4.cell? ⟨w2.heap.size, 0, none⟩ = some (.int .i64 za) := sb4.c0
      have c1 : w4.cell? ⟨w2.heap.size, 1, none⟩ = some (.int .i64 zk) := sb4.c1
      have hlt4 := sb4.lt
      clear b1 b2 b3 b4 S1 B2 B3 S3 sb3 hlt3 hl1
      generalize w2.heap.size = N at *
      by_cases q0 : zk = 0
      · subst q0
        have hz : hgI 0 n = 0 := (hhg.out 0).trans ((if_neg (by decide)).trans (if_neg (by decide)))
        have hm : max x ((St.mk za 0).a - hgI (St.mk za 0).k n) = max x (za) := by show max x (za - hgI 0 n) = _; rw [hz]; simp
        rw [hm]
        clear hm hz hhg r3'
        have hmx : max x za = za := by omega
        rw [hmx]
        clear hmx
        go_wp2_with fail
        refine (hbl w4).mono ?_
        rintro e w5 ⟨rfl, b5⟩
        have B5 := B4.trans (b5.mono B4.size)
        have S5 := S4.below b5 (Nat.le_refl _)
        have sb5 := sb4.below b5 hlt4
        have c0 : w5.cell? ⟨N, 0, none⟩ = some (.int .i64 za) := sb5.c0
        have g1 : ¬ y ≤ x := by omega
        have g2 : ¬ x + 48 < y := by omega
        clear hbl b5 S4 B4 sb4
        go_wp2_with fail
        refine (hlast.out w5 S5).mono ?_
        rintro e w6 ⟨⟨⟨ta, tk⟩, hh⟩, b6⟩
        have B6 := B5.trans (b6.mono B5.size)
        have sb6 := sb5.below b6 sb5.lt
        have hlt6 := sb6.lt
        obtain ⟨sb7, b7⟩ := boxed w6 ⟨ta, tk⟩
        have B7 := B6.trans (b7.mono B6.size)
        have sb7' := sb6.below b7 hlt6
        clear hlast b6 S5 c0
        rcases hh with rfl | ⟨rfl, hgt⟩
        · go_wp2_with (refine wpList_store_row rfl 24 _ _ rfl w6.heap.size (stC ⟨ta, tk⟩) rfl rfl 24 _ (SB.new w6 ⟨0, 0⟩).row (info24 _) rfl (stC_one _) ?_)
          go_ret
          exact ⟨rfl, B7⟩
        · have hgt' : za < ta := hgt
          go_wp2_with (refine wpList_store_row rfl 24 _ _ rfl w6.heap.size (stC ⟨ta, tk⟩) rfl rfl 24 _ (SB.new w6 ⟨0, 0⟩).row (info24 _) rfl (stC_one _) ?_; generalize ((w6.alloc (Obj.cells #[.int .i64 0, .int .i64 0] 24)).setRow w6.heap.size (stC ⟨ta, tk⟩)) = w7 at *; have e0 : w7.cell? ⟨N, 0, none⟩ = some (.int .i64 za) := sb7'.c0; have e1 : w7.cell? ⟨w6.heap.size, 0, none⟩ = some (.int .i64 ta) := sb7.c0)
          go_ret
          exact ⟨rfl, B7⟩
      by_cases q2 : zk = 2
      · subst q2
        have hz : hgI 2 n = n := (hhg.out 2).trans (if_pos rfl)
        have hm : max x ((St.mk za 2).a - hgI (St.mk za 2).k n) = max x (za - n) := by show max x (za - hgI 2 n) = _; rw [hz]
        rw [hm]
        clear hm hz hhg r3'
        by_cases p1 : x < za - n
        · have hmx : max x (za - n) = za - n := by omega
          rw [hmx]
          clear hmx
          go_wp2_with fail
          refine (hbl w4).mono ?_
          rintro e w5 ⟨rfl, b5⟩
          have B5 := B4.trans (b5.mono B4.size)
          have S5 := S4.below b5 (Nat.le_refl _)
          have sb5 := sb4.below b5 hlt4
          have c0 : w5.cell? ⟨N, 0, none⟩ = some (.int .i64 za) := sb5.c0
          have g1 : ¬ y ≤ x := by omega
          have g2 : ¬ x + 48 < y := by omega
          clear hbl b5 S4 B4 sb4
          go_wp2_with fail
          refine (hlast.out w5 S5).mono ?_
          rintro e w6 ⟨⟨⟨ta, tk⟩, hh⟩, b6⟩
          have B6 := B5.trans (b6.mono B5.size)
          have sb6 := sb5.below b6 sb5.lt
          have hlt6 := sb6.lt
          obtain ⟨sb7, b7⟩ := boxed w6 ⟨ta, tk⟩
          have B7 := B6.trans (b7.mono B6.size)
          have sb7' := sb6.below b7 hlt6
          clear hlast b6 S5 c0
          rcases hh with rfl | ⟨rfl, hgt⟩
          · go_wp2_with (refine wpList_store_row rfl 24 _ _ rfl w6.heap.size (stC ⟨ta, tk⟩) rfl rfl 24 _ (SB.new w6 ⟨0, 0⟩).row (info24 _) rfl (stC_one _) ?_)
            go_ret
            exact ⟨rfl, B7⟩
          · have hgt' : za < ta := hgt
            go_wp2_with (refine wpList_store_row rfl 24 _ _ rfl w6.heap.size (stC ⟨ta, tk⟩) rfl rfl 24 _ (SB.new w6 ⟨0, 0⟩).row (info24 _) rfl (stC_one _) ?_; generalize ((w6.alloc (Obj.cells #[.int .i64 0, .int .i64 0] 24)).setRow w6.heap.size (stC ⟨ta, tk⟩)) = w7 at *; have e0 : w7.cell? ⟨N, 0, none⟩ = some (.int .i64 za) := sb7'.c0; have e1 : w7.cell? ⟨w6.heap.size, 0, none⟩ = some (.int .i64 ta) := sb7.c0)
            go_ret
            exact ⟨rfl, B7⟩
        have hmx : max x (za - n) = x := by omega
        rw [hmx]
        clear hmx
        go_wp2_with fail
        refine (hbl w4).mono ?_
        rintro e w5 ⟨rfl, b5⟩
        have B5 := B4.trans (b5.mono B4.size)
        have S5 := S4.below b5 (Nat.le_refl _)
        have sb5 := sb4.below b5 hlt4
        have c0 : w5.cell? ⟨N, 0, none⟩ = some (.int .i64 za) := sb5.c0
        have g1 : ¬ y ≤ x := by omega
        have g2 : ¬ x + 48 < y := by omega
        clear hbl b5 S4 B4 sb4
        go_wp2_with fail
        refine (hlast.out w5 S5).mono ?_
        rintro e w6 ⟨⟨⟨ta, tk⟩, hh⟩, b6⟩
        have B6 := B5.trans (b6.mono B5.size)
        have sb6 := sb5.below b6 sb5.lt
        have hlt6 := sb6.lt
        obtain ⟨sb7, b7⟩ := boxed w6 ⟨ta, tk⟩
        have B7 := B6.trans (b7.mono B6.size)
        have sb7' := sb6.below b7 hlt6
        clear hlast b6 S5 c0
        rcases hh with rfl | ⟨rfl, hgt⟩
        · go_wp2_with (refine wpList_store_row rfl 24 _ _ rfl w6.heap.size (stC ⟨ta, tk⟩) rfl rfl 24 _ (SB.new w6 ⟨0, 0⟩).row (info24 _) rfl (stC_one _) ?_)
          go_ret
          exact ⟨rfl, B7⟩
        · have hgt' : za < ta := hgt
          go_wp2_with (refine wpList_store_row rfl 24 _ _ rfl w6.heap.size (stC ⟨ta, tk⟩) rfl rfl 24 _ (SB.new w6 ⟨0, 0⟩).row (info24 _) rfl (stC_one _) ?_; generalize ((w6.alloc (Obj.cells #[.int .i64 0, .int .i64 0] 24)).setRow w6.heap.size (stC ⟨ta, tk⟩)) = w7 at *; have e0 : w7.cell? ⟨N, 0, none⟩ = some (.int .i64 za) := sb7'.c0; have e1 : w7.cell? ⟨w6.heap.size, 0, none⟩ = some (.int .i64 ta) := sb7.c0)
          go_ret
          exact ⟨rfl, B7⟩
      obtain rfl : zk = 3 := by have := r3'.out; omega
      have hz : hgI 3 n = n / 2 := (hhg.out 3).trans ((if_neg (by decide)).trans (if_pos rfl))
      have hm : max x ((St.mk za 3).a - hgI (St.mk za 3).k n) = max x (za - n / 2) := by show max x (za - hgI 3 n) = _; rw [hz]
      rw [hm]
      clear hm hz hhg r3'
      by_cases p1 : x < za - n / 2
      · have hmx : max x (za - n / 2) = za - n / 2 := by omega
        rw [hmx]
        clear hmx
        go_wp2_with fail
        refine (hbl w4).mono ?_
        rintro e w5 ⟨rfl, b5⟩
        have B5 := B4.trans (b5.mono B4.size)
        have S5 := S4.below b5 (Nat.le_refl _)
        have sb5 := sb4.below b5 hlt4
        have c0 : w5.cell? ⟨N, 0, none⟩ = some (.int .i64 za) := sb5.c0
        have g1 : ¬ y ≤ x := by omega
        have g2 : ¬ x + 48 < y := by omega
        clear hbl b5 S4 B4 sb4
        go_wp2_with fail
        refine (hlast.out w5 S5).mono ?_
        rintro e w6 ⟨⟨⟨ta, tk⟩, hh⟩, b6⟩
        have B6 := B5.trans (b6.mono B5.size)
        have sb6 := sb5.below b6 sb5.lt
        have hlt6 := sb6.lt
        obtain ⟨sb7, b7⟩ := boxed w6 ⟨ta, tk⟩
        have B7 := B6.trans (b7.mono B6.size)
        have sb7' := sb6.below b7 hlt6
        clear hlast b6 S5 c0
        rcases hh with rfl | ⟨rfl, hgt⟩
        · go_wp2_with (refine wpList_store_row rfl 24 _ _ rfl w6.heap.size (stC ⟨ta, tk⟩) rfl rfl 24 _ (SB.new w6 ⟨0, 0⟩).row (info24 _) rfl (stC_one _) ?_)
          go_ret
          exact ⟨rfl, B7⟩
        · have hgt' : za < ta := hgt
          go_wp2_with (refine wpList_store_row rfl 24 _ _ rfl w6.heap.size (stC ⟨ta, tk⟩) rfl rfl 24 _ (SB.new w6 ⟨0, 0⟩).row (info24 _) rfl (stC_one _) ?_; generalize ((w6.alloc (Obj.cells #[.int .i64 0, .int .i64 0] 24)).setRow w6.heap.size (stC ⟨ta, tk⟩)) = w7 at *; have e0 : w7.cell? ⟨N, 0, none⟩ = some (.int .i64 za) := sb7'.c0; have e1 : w7.cell? ⟨w6.heap.size, 0, none⟩ = some (.int .i64 ta) := sb7.c0)
          go_ret
          exact ⟨rfl, B7⟩
      have hmx : max x (za - n / 2) = x := by omega
      rw [hmx]
      clear hmx
      go_wp2_with fail
      refine (hbl w4).mono ?_
      rintro e w5 ⟨rfl, b5⟩
      have B5 := B4.trans (b5.mono B4.size)
      have S5 := S4.below b5 (Nat.le_refl _)
      have sb5 := sb4.below b5 hlt4
      have c0 : w5.cell? ⟨N, 0, none⟩ = some (.int .i64 za) := sb5.c0
      have g1 : ¬ y ≤ x := by omega
      have g2 : ¬ x + 48 < y := by omega
      clear hbl b5 S4 B4 sb4
      go_wp2_with fail
      refine (hlast.out w5 S5).mono ?_
      rintro e w6 ⟨⟨⟨ta, tk⟩, hh⟩, b6⟩
      have B6 := B5.trans (b6.mono B5.size)
      have sb6 := sb5.below b6 sb5.lt
      have hlt6 := sb6.lt
      obtain ⟨sb7, b7⟩ := boxed w6 ⟨ta, tk⟩
      have B7 := B6.trans (b7.mono B6.size)
      have sb7' := sb6.below b7 hlt6
      clear hlast b6 S5 c0
      rcases hh with rfl | ⟨rfl, hgt⟩
      · go_wp2_with (refine wpList_store_row rfl 24 _ _ rfl w6.heap.size (stC ⟨ta, tk⟩) rfl rfl 24 _ (SB.new w6 ⟨0, 0⟩).row (info24 _) rfl (stC_one _) ?_)
        go_ret
        exact ⟨rfl, B7⟩
      · have hgt' : za < ta := hgt
        go_wp2_with (refine wpList_store_row rfl 24 _ _ rfl w6.heap.size (stC ⟨ta, tk⟩) rfl rfl 24 _ (SB.new w6 ⟨0, 0⟩).row (info24 _) rfl (stC_one _) ?_; generalize ((w6.alloc (Obj.cells #[.int .i64 0, .int .i64 0] 24)).setRow w6.heap.size (stC ⟨ta, tk⟩)) = w7 at *; have e0 : w7.cell? ⟨N, 0, none⟩ = some (.int .i64 za) := sb7'.c0; have e1 : w7.cell? ⟨w6.heap.size, 0, none⟩ = some (.int .i64 ta) := sb7.c0)
        go_ret
        exact ⟨rfl, B7⟩
    · have hn1 := hnx x w1 S1
      rw [h0] at hn1
      have hl1 := hld
      have h1' : ¬ ldE l x n = 0 := h1
      clear hnx hld h0 h1
      generalize nxS l x = z at *
      generalize ldV l x n = y at *
      generalize ldE l x n = y' at *
      refine hn1.mono ?_
      rintro e w2 ⟨rfl, b2⟩
      obtain ⟨sb3, b3⟩ := boxed w2 z
      have B2 := b1.trans (b2.mono b1.size)
      have B3 := B2.trans (b3.mono B2.size)
      have S3 := (S1.below b2 (Nat.le_refl _)).below b3 (Nat.le_refl _)
      clear hn1
      unfold stV
      go_wp2_with (refine wpList_store_row rfl 24 _ _ rfl w2.heap.size (stC z) rfl rfl 24 _ (SB.new w2 ⟨0, 0⟩).row (info24 _) rfl (stC_one _) ?_)
      generalize ((w2.alloc (Obj.cells #[.int .i64 0, .int .i64 0] 24)).setRow w2.heap.size (stC z)) = w3 at *
      refine (hl1 w3 S3).mono ?_
      rintro e w4 ⟨rfl, b4⟩
      have B4 := B3.trans (b4.mono B3.size)
      clear b1 b2 b3 b4 S1 B2 B3 S3 sb3 hl1
      go_wp2_with fail
      go_ret
      exact ⟨rfl, B4⟩
  · have hn1 := hnx x w1 S1
    have hl1 := hld
    have h0' : ¬ nxE l x = 0 := h0
    clear hnx hld h0
    generalize nxS l x = z at *
    generalize nxE l x = y at *
    generalize ldV l x n = y1 at *
    generalize ldE l x n = y2 at *
    refine hn1.mono ?_
    rintro e w2 ⟨rfl, b2⟩
    obtain ⟨sb3, b3⟩ := boxed w2 z
    have B2 := b1.trans (b2.mono b1.size)
    have B3 := B2.trans (b3.mono B2.size)
    have S3 := (S1.below b2 (Nat.le_refl _)).below b3 (Nat.le_refl _)
    clear hn1
    unfold stV
    go_wp2_with (refine wpList_store_row rfl 24 _ _ rfl w2.heap.size (stC z) rfl rfl 24 _ (SB.new w2 ⟨0, 0⟩).row (info24 _) rfl (stC_one _) ?_)
    generalize ((w2.alloc (Obj.cells #[.int .i64 0, .int .i64 0] 24)).setRow w2.heap.size (stC z)) = w3 at *
    refine (hl1 w3 S3).mono ?_
    rintro e w4 ⟨rfl, b4⟩
    have B4 := B3.trans (b4.mono B3.size)
    clear b1 b2 b3 b4 S1 B2 B3 S3 sb3 hl1
    go_wp2_with fail
    go_ret
    exact ⟨rfl, B4⟩

set_option maxRecDepth 100000 in
theorem lifted (os : Os) (started : os.Started) (H : Type) (enc : TypeId × Value → H) :
    ReturnsInHanded {} Try.checked os 5 .any (Rows.tabGoesSpec.pre6 enc Try.prog Try.f5 Rows.tabGoesRow.domain false) (Rows.tabGoesSpec.post enc Try.prog Try.f5 false true false false) := by
  refine returnsInHanded_of_change (C := Try.checked) own started (by kernel_rfl) Try.func5
    (ChangeSpec.witness6 (enc := enc) (C := Try.checked) false ⟨#[], #[.slice none 0 0, .int .i64 0, .int .i64 0], []⟩ 8 (by kernel_rfl) (by kernel_rfl) (by kernel_rfl) (by kernel_rfl)) ?_
  intro W base args ds gs before hval0 hW hcnd _
  have hval : ∀ (j : Nat) t v, Try.f5.params[j]? = some t → args[j]? = some v → Value.okWide Try.prog W .any base t v := hval0
  have hW' := hW
  obtain ⟨p, q, hA0, hV, rfl, hfz, hnd⟩ := hW
  have hA : DataW.TrodAll enc Try.prog W 0 (fun _ => true) true Try.f5.params.toList args.toList ds p := hA0
  rw [Try.params5] at hA hval
  obtain ⟨v0, vs0, d0, ds0, p0, q0, hargs, rfl, rfl, h0, r0⟩ := trodAll_cons hA
  obtain ⟨v1, vs1, d1, ds1, p1, q1, rfl, rfl, rfl, h1, r1⟩ := trodAll_cons r0
  obtain ⟨v2, vs2, d2, ds2, p2, q2, rfl, rfl, rfl, h2, r2⟩ := trodAll_cons r1
  obtain ⟨rfl, rfl, rfl⟩ := trodAll_nil r2
  obtain rfl : args = #[v0, v1, v2] := by cases args; simp_all
  obtain ⟨rfl, rfl⟩ := trodVars_none hV
  obtain ⟨a, len, cap, rfl⟩ := okWide_slice Try.underlying22 (hval 0 22 v0 rfl rfl)
  have k0 := h0
  have lt0 : ∀ x ∈ p0, x.block < W.heap.size := by obtain ⟨m, hm⟩ := k0; exact DataW.trod_lt m _ _ _ hm
  obtain ⟨fuel, hf⟩ := h0
  obtain ⟨v, qs, hv, hS, hlq, hx⟩ := recs_in (α := St) (k := 2) (f := stL) Try.underlying22 (by kernel_rfl) (by decide) (fun _ _ _ h1 h2 => st_at h1 h2) hf
  have hv' : Value.slice a len cap = v := by simpa [Value.cells] using hv
  subst hv'
  obtain ⟨a1, rfl, rfl, rfl, w1⟩ := open_int Try.underlying3 (hval 1 3 v1 rfl rfl) h1
  obtain ⟨a2, rfl, rfl, rfl, w2⟩ := open_int Try.underlying3 (hval 2 3 v2 rfl rfl) h2
  clear hA0 hval0
  simp only [List.append_nil] at hW'
  refine (walk _ qs a1 a2 hlq W hS).mono fun e W' ⟨he, hg⟩ => ?_
  subst he
  exact ⟨_, rfl, _, _, _, [], _, [], hW', trodAll_mk1 (shut_bool Try.underlying4 _), (trodAll_cons_mk (Below.trod laidOut (by kernel_rfl) (of_decide_eq_true (by kernel_rfl)) k0 hg lt0) (trodAll_cons_mk (shut_int Try.underlying3 w1) (trodAll_cons_mk (shut_int Try.underlying3 w2) trodAll_mk0))), rfl, hg.frame _, fun h => by cases h⟩

theorem over : Rows.tabGoesRow.holds Try.pinned (OpenSpec.ofChange Rows.tabGoesSpec) :=
  OpenClaim.holds_of_wide 5 Try.f5 rfl rfl rfl rfl rfl rfl rfl ⟨rfl, rfl, rfl, rfl, rfl⟩ rfl rfl rfl rfl rfl (by kernel_rfl) Try.func5 (by kernel_rfl)
    (of_decide_eq_true (by kernel_rfl)) (by unfold Func.isWrapper; first | (rw [if_pos (by decide +kernel)]; kernel_rfl) | (rw [if_neg (by decide +kernel)]; exact ⟨rfl, rfl⟩))
    (fun os started H enc _ => lifted os started H enc)

end Go.Proofs.Ytbnpplihiolpiaa.tabGoes
namespace Go.Proofs.Ytbnpplihiolpiaa

theorem tabGoes_holds : Rows.TabGoesSaid := tabGoes.over

end Go.Proofs.Ytbnpplihiolpiaa
