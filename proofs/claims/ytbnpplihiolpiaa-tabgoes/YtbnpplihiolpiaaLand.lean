/-
  What is proved here: what Land tells, and the document's Land.
-/
import Derived.Test.YtbnpplihiolpiaaNext
import Derived.BigQuiet
namespace Go.Proofs.Ytbnpplihiolpiaa
open Go.RowKit Go.Shelf

theorem ld_no {l : List St} {x n : Int} (h : ¬ nxE l x = 0) : ldE l x n = nxE l x ∧ ldV l x n = 0 := ⟨if_neg h, if_neg (fun e => h e.1)⟩
theorem ld_out {l : List St} {x n : Int} (h : nxE l x = 0) (hx : ¬ inB n = true) : ldE l x n = 5 ∧ ldV l x n = 0 := ⟨(if_pos h).trans (if_neg hx), if_neg (fun e => hx e.2)⟩
theorem ld_ok {l : List St} {x n : Int} (h : nxE l x = 0) (hx : inB n = true) : ldE l x n = 0 ∧ ldV l x n = max x ((firstS l x).a - hgI (firstS l x).k n) := ⟨(if_pos h).trans (if_pos hx), if_pos ⟨h, hx⟩⟩
theorem nx_zero {l : List St} {x : Int} (h : nxE l x = 0) : okB l = true ∧ inB x = true := by
  unfold nxE at h
  split at h
  · split at h
    · exact ⟨by assumption, by assumption⟩
    · omega
  · omega
theorem hg_rng {k n : Int} (h : inB n = true) : 0 ≤ hgI k n ∧ hgI k n ≤ n := by
  have h' : 0 ≤ n ∧ n ≤ 8190 := of_decide_eq_true h
  have : n.tdiv 2 = n / 2 := Int.tdiv_eq_ediv_of_nonneg h'.1
  unfold hgI
  rw [this]
  repeat' split
  all_goals omega

theorem ret_eq {a b c : Int} (h : a = b) : Ending.returned (.tuple #[.int .i64 a, .int .i64 c]) = .returned (.tuple #[.int .i64 b, .int .i64 c]) := by rw [h]

set_option maxRecDepth 100000 in
set_option maxHeartbeats 2000000 in
theorem land_any (v : Value) (l : List St) (x n : Int) (hl : l.length ≤ 9223372036854775807) (w : World) (hS : RecAt 2 stL w v l) :
    Calls Try.prog 8 #[v, .int .i64 x, .int .i64 n] w fun e w' => e = .returned (.tuple #[.int .i64 (ldV l x n), .int .i64 (ldE l x n)]) ∧ Below w.heap.size w w' := by
  have hnx := next_any v l x hl w hS
  have hre := reaches_any n
  by_cases h0 : nxE l x = 0
  · rw [h0] at hnx
    by_cases hn : inB n = true
    · rw [(ld_ok h0 hn).1, (ld_ok h0 hn).2]
      rw [hn] at hre
      rw [(nx_ok (nx_zero h0).1 (nx_zero h0).2).2] at hnx
      obtain ⟨r1, r2, _⟩ := first_rng (nx_zero h0).1 (nx_zero h0).2
      obtain ⟨i1, i2⟩ : 0 ≤ x ∧ x ≤ 8190 := of_decide_eq_true (nx_zero h0).2
      have hn' : 0 ≤ n ∧ n ≤ 8190 := of_decide_eq_true hn
      obtain ⟨g1, g2⟩ := hg_rng (k := (firstS l x).k) hn
      have hha := hang_any (firstS l x).k n hn'
      obtain ⟨n1, n2⟩ := hn'
      obtain ⟨a, cap, rfl, _⟩ := hS.ex
      clear hS h0 hn
      generalize firstS l x = z at *
      obtain ⟨za, zk⟩ := z
      generalize hgI (St.mk za zk).k n = g at *
      go_enter Try.func8, Try.ntmps8
      go_wp2_with fail
      refine hnx.mono ?_
      rintro e w1 ⟨rfl, b1⟩
      have hsb := SB.new w1 ⟨0, 0⟩
      have hB1 := b1.alloc b1.size (.cells (stC ⟨0, 0⟩) 24)
      unfold stV
      have hs2 : SB ((w1.alloc (Obj.cells #[.int .i64 0, .int .i64 0] 24)).setRow w1.heap.size (stC ⟨za, zk⟩)) w1.heap.size ⟨za, zk⟩ := hsb.set _
      have hB2 : Below w.heap.size w ((w1.alloc (Obj.cells #[.int .i64 0, .int .i64 0] 24)).setRow w1.heap.size (stC ⟨za, zk⟩)) := below_row hB1 hB1.size b1.size _
      clear hsb hB1 hnx
      go_wp2_with (refine wpList_store_row rfl 24 _ _ rfl w1.heap.size (stC ⟨za, zk⟩) rfl rfl 24 _ (SB.new w1 ⟨0, 0⟩).row (info24 _) rfl (stC_one _) ?_)
      refine (hre _).mono ?_
      rintro e w' ⟨rfl, hw⟩
      subst w'
      generalize ((w1.alloc (Obj.cells #[.int .i64 0, .int .i64 0] 24)).setRow w1.heap.size (stC ⟨za, zk⟩)) = w2 at *
      have c0 : w2.cell? ⟨w1.heap.size, 0, none⟩ = some (.int .i64 za) := hs2.c0
      have c1 : w2.cell? ⟨w1.heap.size, 1, none⟩ = some (.int .i64 zk) := hs2.c1
      clear hs2 hre b1
      go_wp2_with fail
      go_quiet (first | (go_at_call 19; refine Calls.quiet_of_same (hha _)))
      all_goals go_wp2_with fail
      all_goals go_ret2
      all_goals exact ⟨ret_eq (by show _ = max x (za - g); omega), below_drewN hB2 _⟩
    · rw [(ld_out h0 hn).1, (ld_out h0 hn).2]
      rw [Bool.not_eq_true] at hn
      rw [hn] at hre
      obtain ⟨a, cap, rfl, _⟩ := hS.ex
      clear hS h0 hn
      generalize nxS l x = z at *
      go_enter Try.func8, Try.ntmps8
      go_wp2_with fail
      refine hnx.mono ?_
      rintro e w1 ⟨rfl, b1⟩
      have hsb := SB.new w1 ⟨0, 0⟩
      have hB1 := b1.alloc b1.size (.cells (stC ⟨0, 0⟩) 24)
      unfold stV
      have hs2 : SB ((w1.alloc (Obj.cells #[.int .i64 0, .int .i64 0] 24)).setRow w1.heap.size (stC z)) w1.heap.size z := hsb.set _
      have hB2 : Below w.heap.size w ((w1.alloc (Obj.cells #[.int .i64 0, .int .i64 0] 24)).setRow w1.heap.size (stC z)) := below_row hB1 hB1.size b1.size _
      clear hsb hB1 hnx
      go_wp2_with (refine wpList_store_row rfl 24 _ _ rfl w1.heap.size (stC z) rfl rfl 24 _ (SB.new w1 ⟨0, 0⟩).row (info24 _) rfl (stC_one _) ?_)
      refine (hre _).mono ?_
      rintro e w' ⟨rfl, hw⟩
      subst w'
      generalize ((w1.alloc (Obj.cells #[.int .i64 0, .int .i64 0] 24)).setRow w1.heap.size (stC z)) = w2 at *
      go_wp2_with fail
      go_ret2
      exact ⟨rfl, hB2⟩
  · rw [(ld_no h0).1, (ld_no h0).2]
    obtain ⟨a, cap, rfl, _⟩ := hS.ex
    clear hS hre
    generalize nxS l x = z at *
    generalize nxE l x = y at *
    go_enter Try.func8, Try.ntmps8
    go_wp2_with fail
    refine hnx.mono ?_
    rintro e w1 ⟨rfl, b1⟩
    have hsb := SB.new w1 ⟨0, 0⟩
    have hB1 := b1.alloc b1.size (.cells (stC ⟨0, 0⟩) 24)
    unfold stV
    have hs2 : SB ((w1.alloc (Obj.cells #[.int .i64 0, .int .i64 0] 24)).setRow w1.heap.size (stC z)) w1.heap.size z := hsb.set _
    have hB2 : Below w.heap.size w ((w1.alloc (Obj.cells #[.int .i64 0, .int .i64 0] 24)).setRow w1.heap.size (stC z)) := below_row hB1 hB1.size b1.size _
    clear hsb hB1 hnx
    go_wp2_with (refine wpList_store_row rfl 24 _ _ rfl w1.heap.size (stC z) rfl rfl 24 _ (SB.new w1 ⟨0, 0⟩).row (info24 _) rfl (stC_one _) ?_)
    go_ret2
    exact ⟨rfl, hB2⟩

set_option maxRecDepth 100000 in
set_option maxHeartbeats 2000000 in
theorem rland_any (v : Value) (l : List St) (x n : Int) (hl : l.length ≤ 9223372036854775807) (w : World) (hS : RecAt 2 stL w v l) :
    Calls Try.prog 9 #[v, .int .i64 x, .int .i64 n] w fun e w' => e = .returned (.tuple #[.int .i64 (ldV l x n), .int .i64 (ldE l x n)]) ∧ Below w.heap.size w w' := by
  have hnx := rnext_any v l x hl w hS
  by_cases h0 : nxE l x = 0
  · rw [h0] at hnx
    by_cases hn : inB n = true
    · rw [(ld_ok h0 hn).1, (ld_ok h0 hn).2]
      rw [(nx_ok (nx_zero h0).1 (nx_zero h0).2).2] at hnx
      obtain ⟨r1, r2, _⟩ := first_rng (nx_zero h0).1 (nx_zero h0).2
      obtain ⟨i1, i2⟩ : 0 ≤ x ∧ x ≤ 8190 := of_decide_eq_true (nx_zero h0).2
      obtain ⟨n1, n2⟩ : 0 ≤ n ∧ n ≤ 8190 := of_decide_eq_true hn
      have n1' : ¬ n < 0 := by omega
      have n2' : ¬ 8190 < n := by omega
      have hdv : n.tdiv 2 = n / 2 := Int.tdiv_eq_ediv_of_nonneg n1
      have hv : Hid (∀ k, hgI k n = if k = 2 then n else if k = 3 then n / 2 else 0) := fun k => by unfold hgI; rw [hdv]
      obtain ⟨a, cap, rfl, _⟩ := hS.ex
      clear hS h0 hn hdv
      generalize firstS l x = z at *
      obtain ⟨za, zk⟩ := z
      by_cases q2 : zk = 2
      · subst q2
        have hz : hgI 2 n = n := (hv.out 2).trans (if_pos rfl)
        have hw : (St.mk za 2).a - hgI (St.mk za 2).k n = za - hgI 2 n := rfl
        rw [hw, hz]
        clear hv hz hw
        go_enter Try.func9, Try.ntmps9
        go_wp2_with fail
        refine hnx.mono ?_
        rintro e w1 ⟨rfl, b1⟩
        have hsb := SB.new w1 ⟨0, 0⟩
        have hB1 := b1.alloc b1.size (.cells (stC ⟨0, 0⟩) 24)
        unfold stV
        have hs2 : SB ((w1.alloc (Obj.cells #[.int .i64 0, .int .i64 0] 24)).setRow w1.heap.size (stC ⟨za, 2⟩)) w1.heap.size ⟨za, 2⟩ := hsb.set _
        have hB2 : Below w.heap.size w ((w1.alloc (Obj.cells #[.int .i64 0, .int .i64 0] 24)).setRow w1.heap.size (stC ⟨za, 2⟩)) := below_row hB1 hB1.size b1.size _
        clear hsb hB1 hnx
        go_wp2_with (first | fail | (refine wpList_store_row rfl 24 _ _ rfl w1.heap.size (stC ⟨za, 2⟩) rfl rfl 24 _ (SB.new w1 ⟨0, 0⟩).row (info24 _) rfl (stC_one _) ?_; generalize ((w1.alloc (Obj.cells #[.int .i64 0, .int .i64 0] 24)).setRow w1.heap.size (stC ⟨za, 2⟩)) = w2 at *; have c0 : w2.cell? ⟨w1.heap.size, 0, none⟩ = some (.int .i64 za) := hs2.c0; have c1 : w2.cell? ⟨w1.heap.size, 1, none⟩ = some (.int .i64 2) := hs2.c1))
        all_goals go_ret2
        all_goals exact ⟨ret_eq (by omega), hB2⟩
      by_cases q3 : zk = 3
      · subst q3
        have hz : hgI 3 n = n / 2 := (hv.out 3).trans ((if_neg (by decide)).trans (if_pos rfl))
        have hw : (St.mk za 3).a - hgI (St.mk za 3).k n = za - hgI 3 n := rfl
        rw [hw, hz]
        clear hv hz hw
        go_enter Try.func9, Try.ntmps9
        go_wp2_with fail
        refine hnx.mono ?_
        rintro e w1 ⟨rfl, b1⟩
        have hsb := SB.new w1 ⟨0, 0⟩
        have hB1 := b1.alloc b1.size (.cells (stC ⟨0, 0⟩) 24)
        unfold stV
        have hs2 : SB ((w1.alloc (Obj.cells #[.int .i64 0, .int .i64 0] 24)).setRow w1.heap.size (stC ⟨za, 3⟩)) w1.heap.size ⟨za, 3⟩ := hsb.set _
        have hB2 : Below w.heap.size w ((w1.alloc (Obj.cells #[.int .i64 0, .int .i64 0] 24)).setRow w1.heap.size (stC ⟨za, 3⟩)) := below_row hB1 hB1.size b1.size _
        clear hsb hB1 hnx
        go_wp2_with (first | fail | (refine wpList_store_row rfl 24 _ _ rfl w1.heap.size (stC ⟨za, 3⟩) rfl rfl 24 _ (SB.new w1 ⟨0, 0⟩).row (info24 _) rfl (stC_one _) ?_; generalize ((w1.alloc (Obj.cells #[.int .i64 0, .int .i64 0] 24)).setRow w1.heap.size (stC ⟨za, 3⟩)) = w2 at *; have c0 : w2.cell? ⟨w1.heap.size, 0, none⟩ = some (.int .i64 za) := hs2.c0; have c1 : w2.cell? ⟨w1.heap.size, 1, none⟩ = some (.int .i64 3) := hs2.c1))
        all_goals go_ret2
        all_goals exact ⟨ret_eq (by omega), hB2⟩
      have hz : hgI zk n = 0 := (hv.out zk).trans ((if_neg q2).trans (if_neg q3))
      have hw : (St.mk za zk).a - hgI (St.mk za zk).k n = za - hgI zk n := rfl
      rw [hw, hz]
      clear hv hz hw
      go_enter Try.func9, Try.ntmps9
      go_wp2_with fail
      refine hnx.mono ?_
      rintro e w1 ⟨rfl, b1⟩
      have hsb := SB.new w1 ⟨0, 0⟩
      have hB1 := b1.alloc b1.size (.cells (stC ⟨0, 0⟩) 24)
      unfold stV
      have hs2 : SB ((w1.alloc (Obj.cells #[.int .i64 0, .int .i64 0] 24)).setRow w1.heap.size (stC ⟨za, zk⟩)) w1.heap.size ⟨za, zk⟩ := hsb.set _
      have hB2 : Below w.heap.size w ((w1.alloc (Obj.cells #[.int .i64 0, .int .i64 0] 24)).setRow w1.heap.size (stC ⟨za, zk⟩)) := below_row hB1 hB1.size b1.size _
      clear hsb hB1 hnx
      go_wp2_with (first | fail | (refine wpList_store_row rfl 24 _ _ rfl w1.heap.size (stC ⟨za, zk⟩) rfl rfl 24 _ (SB.new w1 ⟨0, 0⟩).row (info24 _) rfl (stC_one _) ?_; generalize ((w1.alloc (Obj.cells #[.int .i64 0, .int .i64 0] 24)).setRow w1.heap.size (stC ⟨za, zk⟩)) = w2 at *; have c0 : w2.cell? ⟨w1.heap.size, 0, none⟩ = some (.int .i64 za) := hs2.c0; have c1 : w2.cell? ⟨w1.heap.size, 1, none⟩ = some (.int .i64 zk) := hs2.c1))
      all_goals go_ret2
      all_goals exact ⟨ret_eq (by omega), hB2⟩
    · rw [(ld_out h0 hn).1, (ld_out h0 hn).2]
      have hn' : ¬ (0 ≤ n ∧ n ≤ 8190) := fun e => hn (decide_eq_true e)
      obtain ⟨a, cap, rfl, _⟩ := hS.ex
      clear hS h0 hn
      generalize nxS l x = z at *
      by_cases n0 : n < 0
      · clear hn'
        go_enter Try.func9, Try.ntmps9
        go_wp2_with fail
        refine hnx.mono ?_
        rintro e w1 ⟨rfl, b1⟩
        have hsb := SB.new w1 ⟨0, 0⟩
        have hB1 := b1.alloc b1.size (.cells (stC ⟨0, 0⟩) 24)
        unfold stV
        have hs2 : SB ((w1.alloc (Obj.cells #[.int .i64 0, .int .i64 0] 24)).setRow w1.heap.size (stC z)) w1.heap.size z := hsb.set _
        have hB2 : Below w.heap.size w ((w1.alloc (Obj.cells #[.int .i64 0, .int .i64 0] 24)).setRow w1.heap.size (stC z)) := below_row hB1 hB1.size b1.size _
        clear hsb hB1 hnx
        go_wp2_with (refine wpList_store_row rfl 24 _ _ rfl w1.heap.size (stC z) rfl rfl 24 _ (SB.new w1 ⟨0, 0⟩).row (info24 _) rfl (stC_one _) ?_)
        go_ret2
        exact ⟨rfl, hB2⟩
      · have n1 : 8190 < n := by omega
        clear hn'
        go_enter Try.func9, Try.ntmps9
        go_wp2_with fail
        refine hnx.mono ?_
        rintro e w1 ⟨rfl, b1⟩
        have hsb := SB.new w1 ⟨0, 0⟩
        have hB1 := b1.alloc b1.size (.cells (stC ⟨0, 0⟩) 24)
        unfold stV
        have hs2 : SB ((w1.alloc (Obj.cells #[.int .i64 0, .int .i64 0] 24)).setRow w1.heap.size (stC z)) w1.heap.size z := hsb.set _
        have hB2 : Below w.heap.size w ((w1.alloc (Obj.cells #[.int .i64 0, .int .i64 0] 24)).setRow w1.heap.size (stC z)) := below_row hB1 hB1.size b1.size _
        clear hsb hB1 hnx
        go_wp2_with (refine wpList_store_row rfl 24 _ _ rfl w1.heap.size (stC z) rfl rfl 24 _ (SB.new w1 ⟨0, 0⟩).row (info24 _) rfl (stC_one _) ?_)
        go_ret2
        exact ⟨rfl, hB2⟩
  · rw [(ld_no h0).1, (ld_no h0).2]
    obtain ⟨a, cap, rfl, _⟩ := hS.ex
    clear hS
    generalize nxS l x = z at *
    generalize nxE l x = y at *
    go_enter Try.func9, Try.ntmps9
    go_wp2_with fail
    refine hnx.mono ?_
    rintro e w1 ⟨rfl, b1⟩
    have hsb := SB.new w1 ⟨0, 0⟩
    have hB1 := b1.alloc b1.size (.cells (stC ⟨0, 0⟩) 24)
    unfold stV
    have hs2 : SB ((w1.alloc (Obj.cells #[.int .i64 0, .int .i64 0] 24)).setRow w1.heap.size (stC z)) w1.heap.size z := hsb.set _
    have hB2 : Below w.heap.size w ((w1.alloc (Obj.cells #[.int .i64 0, .int .i64 0] 24)).setRow w1.heap.size (stC z)) := below_row hB1 hB1.size b1.size _
    clear hsb hB1 hnx
    go_wp2_with (refine wpList_store_row rfl 24 _ _ rfl w1.heap.size (stC z) rfl rfl 24 _ (SB.new w1 ⟨0, 0⟩).row (info24 _) rfl (stC_one _) ?_)
    go_ret2
    exact ⟨rfl, hB2⟩
end Go.Proofs.Ytbnpplihiolpiaa
