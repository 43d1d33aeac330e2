/-
  What is proved here: what the document's own Check and Page answer.
-/
import Derived.Test.YtglgapmjhmeonaaWalkH
namespace Go.Proofs.Ytglgapmjhmeonaa
open Go.RowKit Go.Shelf

theorem wpList_load_want {P : Program} {ops : Array Oper} {rest : List Oper} {o : Oper} {a : Act} {w : World} {Q : Exit → Act → World → Prop} (ty : TypeId) (x : Operand) (ho : o.op = .load ty x) (hw : Region.wanted o (yielded ops a.tmps) = true)
    (g : Nat) (hx : a.eval x = .pointer (some ⟨g, 0, none⟩)) (t : TypeId) (cs : Array Value) (fr : Nat × Nat) (d : TypeDesc) (hg : w.heap[g]? = some (.cells cs t fr))
    (hu : P.underlying ty = some d) (hd : (match d with | .struct _ | .array _ _ => true | _ => false) = true) (hi : (P.info? ty).map (·.size) = some cs.size)
    (h : wpList P ops Q rest (a.put o.dst (.agg cs)) w) : wpList P ops Q (o :: rest) a w :=
  BigFrame.wpList_want hw fun _ hK => wp_load_row ty x ho g hx t cs fr d hg hu hd hi (hK _ _ h)

def rlK (s : Sec) : Nat → Int | 0 => s.top | 1 => s.bottom | 2 => s.inner | 3 => s.outer | _ => s.gap
theorem k5 {k : Nat} (h : k < 5) : k = 0 ∨ k = 1 ∨ k = 2 ∨ k = 3 ∨ k = 4 := by omega
theorem rl_bad {s : Sec} {k : Nat} (hk : k < 5) (h : rlK s k < 0 ∨ 4095 < rlK s k) : checkI s = 5 := by
  unfold checkI
  rw [if_pos]
  unfold RangeBad
  rcases k5 hk with rfl | rfl | rfl | rfl | rfl <;> (simp only [rlK] at h; omega)
theorem range_bad {s : Sec} (h : s.w < 1 ∨ 4095 < s.w ∨ s.h < 1 ∨ 4095 < s.h) : checkI s = 5 := by
  unfold checkI
  rw [if_pos]
  unfold RangeBad
  omega
theorem arg_bad {s : Sec} (h1 : ¬ RangeBad s) (h : ArgBad s) : checkI s = 2 := by
  unfold checkI
  rw [if_neg h1, if_pos h]
theorem thin_bad {s : Sec} (h1 : ¬ RangeBad s) (h2 : ¬ ArgBad s) (h : Thin s) : checkI s = 5 := by
  unfold checkI
  rw [if_neg h1, if_neg h2, if_pos h]
theorem thin_ok {s : Sec} (h1 : ¬ RangeBad s) (h2 : ¬ ArgBad s) (h : ¬ Thin s) : checkI s = textI s := by
  unfold checkI
  rw [if_neg h1, if_neg h2, if_neg h]
theorem tx_long {s : Sec} {t : Str} (ht : t ∈ texts s) (h : 100 < t.size) : textI s = 3 := by
  obtain ⟨k, hk, rfl⟩ := List.getElem_of_mem ht
  exact text_long hk h
theorem tx_bytes {s : Sec} (h : ∀ t ∈ texts s, ¬ 100 < t.size) : textI s = if (texts s).any (fun t => !bytesB t) then 4 else 0 := text_bytes fun _ hk => h _ (List.getElem_mem hk)
theorem tx_no {s : Sec} (h : textI s = if (texts s).any (fun t => !bytesB t) then 4 else 0) {t : Str} (ht : t ∈ texts s) (hb : bytesB t = false) : textI s = 4 := by
  obtain ⟨k, hk, rfl⟩ := List.getElem_of_mem ht
  exact text_no h hk hb
theorem tx_yes {s : Sec} (h : textI s = if (texts s).any (fun t => !bytesB t) then 4 else 0) (hb : ∀ t ∈ texts s, bytesB t = true) : textI s = 0 := text_yes h fun _ hk => hb _ (List.getElem_mem hk)
theorem sm_mem {s : Sec} (h : smB s = true) {t : Str} (ht : t ∈ texts s) : t.size ≤ 300 := by
  have := List.all_eq_true.1 h t ht
  simpa only [decide_eq_true_eq] using this

theorem rc_new (w : World) (s : Sec) : SB ((w.alloc (Obj.cells (seC s) 24)).alloc (Obj.cells #[.int .i64 s.top, .int .i64 s.bottom, .int .i64 s.inner, .int .i64 s.outer, .int .i64 s.gap] 3)) w.heap.size s ∧ Below w.heap.size w ((w.alloc (Obj.cells (seC s) 24)).alloc (Obj.cells #[.int .i64 s.top, .int .i64 s.bottom, .int .i64 s.inner, .int .i64 s.outer, .int .i64 s.gap] 3)) ∧ ∀ k, k < 5 → ((w.alloc (Obj.cells (seC s) 24)).alloc (Obj.cells #[.int .i64 s.top, .int .i64 s.bottom, .int .i64 s.inner, .int .i64 s.outer, .int .i64 s.gap] 3)).cell? ⟨w.heap.size + 1, k, none⟩ = some (.int .i64 (rlK s k)) := by
  refine ⟨⟨(heap_old _ _ (by simp)).trans (heap_new w _)⟩, ((Below.refl _ w).alloc (Nat.le_refl _) _).alloc (by simp) _, fun k hk => ?_⟩
  rw [Lib.cell_of_heap (heap_new2 w _ _)]
  rcases k5 hk with rfl | rfl | rfl | rfl | rfl <;> rfl

set_option maxRecDepth 100000 in
set_option maxHeartbeats 4000000 in
theorem rcheck_any (s : Sec) (hsm : smB s = true) (w : World) : Calls Try.prog 14 #[seV s] w fun e w' => e = .returned (.int .i64 (checkI s)) ∧ Below w.heap.size w w' := by
  obtain ⟨hS, hB, hl⟩ := rc_new w s
  have hl' : Hid (∀ k, k < 5 → ((w.alloc (Obj.cells (seC s) 24)).alloc (Obj.cells #[.int .i64 s.top, .int .i64 s.bottom, .int .i64 s.inner, .int .i64 s.outer, .int .i64 s.gap] 3)).cell? ⟨w.heap.size + 1, k, none⟩ = some (.int .i64 (rlK s k))) := hl
  have hsm' : Hid (smB s = true) := hsm
  have hS' : Hid (SB ((w.alloc (Obj.cells (seC s) 24)).alloc (Obj.cells #[.int .i64 s.top, .int .i64 s.bottom, .int .i64 s.inner, .int .i64 s.outer, .int .i64 s.gap] 3)) w.heap.size s) := hS
  have c0 := hS.c0; have c1 := hS.c1; have c2 := hS.c2; have c3 := hS.c3; have c4 := hS.c4; have c5 := hS.c5; have c6 := hS.c6; have c7 := hS.c7; have c8 := hS.c8; have c9 := hS.c9; have c10 := hS.c10
  have o := SB.new w s
  have o2 := o.c2; have o3 := o.c3; have o4 := o.c4; have o5 := o.c5; have o7 := o.c7
  clear hsm hS hl o
  unfold seV
  go_enter Try.func14, Try.ntmps14
  go_wp2_with fail
  clear o2 o3 o4 o5 o7
  generalize ((w.alloc (Obj.cells (seC s) 24)).alloc (Obj.cells #[.int .i64 s.top, .int .i64 s.bottom, .int .i64 s.inner, .int .i64 s.outer, .int .i64 s.gap] 3)) = W at *
  go_loopw [4] (fun i wr => ∃ k : Nat, k ≤ 5 ∧ i = .int .i64 k ∧ wr = W ∧ Hid (∀ j, j < k → 0 ≤ rlK s j ∧ rlK s j ≤ 4095)) (fun i _ => 5 - (intOf i).toNat)
  case atStart => exact ⟨0, by omega, rfl, rfl, fun j hj => by omega⟩
  case round =>
    obtain ⟨k, hk, rfl, hwr, hall⟩ := hrel
    subst wr
    by_cases hlt : k < 5
    · have hltI : (k : Int) < 5 := by omega
      have hck := hl'.out k hlt
      have hbad : Hid (rlK s k < 0 ∨ 4095 < rlK s k → checkI s = 5) := rl_bad hlt
      have hgo : Hid (0 ≤ rlK s k ∧ rlK s k ≤ 4095 → ∀ j, j < k + 1 → 0 ≤ rlK s j ∧ rlK s j ≤ 4095) := fun h j hj => by
        by_cases hjk : j < k
        · exact hall.out j hjk
        · obtain rfl : j = k := by omega
          exact h
      clear hall
      generalize rlK s k = x at hck hbad hgo
      by_cases h1 : x < 0
      · have h5 : Hid (checkI s = 5) := hbad.out (.inl h1)
        go_wp2_with fail
        go_ret
        exact ⟨by rw [h5.out]; rfl, hB⟩
      · by_cases h2 : 4095 < x
        · have h5 : Hid (checkI s = 5) := hbad.out (.inr h2)
          go_wp2_with fail
          go_ret
          exact ⟨by rw [h5.out]; rfl, hB⟩
        · have h5 : Hid (∀ j, j < k + 1 → 0 ≤ rlK s j ∧ rlK s j ≤ 4095) := hgo.out ⟨by omega, by omega⟩
          go_wp2_with fail
          go_roundw
          case rel => exact ⟨k + 1, by omega, by simp, by first | rfl | trivial, h5⟩
          case measure => simp [intOf]; omega
    · have hge : ¬ (k : Int) < 5 := by omega
      have g0 := hall.out 0 (by omega); have g1 := hall.out 1 (by omega); have g2 := hall.out 2 (by omega); have g3 := hall.out 3 (by omega); have g4 := hall.out 4 (by omega)
      simp only [rlK] at g0 g1 g2 g3 g4
      clear hall hl' hlt hk
      by_cases hWH : s.w < 1 ∨ 4095 < s.w ∨ s.h < 1 ∨ 4095 < s.h
      · have h5 : Hid (checkI s = 5) := range_bad hWH
        have hd : s.w < 1 ∨ (¬ s.w < 1 ∧ 4095 < s.w) ∨ (¬ s.w < 1 ∧ ¬ 4095 < s.w ∧ s.h < 1) ∨ (¬ s.w < 1 ∧ ¬ 4095 < s.w ∧ ¬ s.h < 1 ∧ 4095 < s.h) := by omega
        clear hWH
        rcases hd with h | ⟨h, h'⟩ | ⟨h, h', h''⟩ | ⟨h, h', h'', h3⟩
        all_goals
          go_wp2_with fail
          go_ret
          exact ⟨by rw [h5.out]; rfl, hB⟩
      · have w1 : ¬ s.w < 1 := by omega
        have w2 : ¬ 4095 < s.w := by omega
        have w3 : ¬ s.h < 1 := by omega
        have w4 : ¬ 4095 < s.h := by omega
        have hR : Hid (¬ RangeBad s) := by show ¬ RangeBad s; unfold RangeBad; omega
        clear hWH
        by_cases hA : s.cols < 1 ∨ 8 < s.cols ∨ s.start < 0 ∨ 2 < s.start ∨ s.balance < 0 ∨ 1 < s.balance ∨ s.mirror < 0 ∨ 1 < s.mirror
        · have h5 : Hid (checkI s = 2) := arg_bad hR.out hA
          have hd : (s.cols < 1) ∨ (¬ s.cols < 1 ∧ 8 < s.cols) ∨ (¬ s.cols < 1 ∧ ¬ 8 < s.cols ∧ s.start < 0) ∨ (¬ s.cols < 1 ∧ ¬ 8 < s.cols ∧ ¬ s.start < 0 ∧ 2 < s.start) ∨ (¬ s.cols < 1 ∧ ¬ 8 < s.cols ∧ ¬ s.start < 0 ∧ ¬ 2 < s.start ∧ s.balance < 0) ∨ (¬ s.cols < 1 ∧ ¬ 8 < s.cols ∧ ¬ s.start < 0 ∧ ¬ 2 < s.start ∧ ¬ s.balance < 0 ∧ 1 < s.balance) ∨ (¬ s.cols < 1 ∧ ¬ 8 < s.cols ∧ ¬ s.start < 0 ∧ ¬ 2 < s.start ∧ ¬ s.balance < 0 ∧ ¬ 1 < s.balance ∧ s.mirror < 0) ∨ (¬ s.cols < 1 ∧ ¬ 8 < s.cols ∧ ¬ s.start < 0 ∧ ¬ 2 < s.start ∧ ¬ s.balance < 0 ∧ ¬ 1 < s.balance ∧ ¬ s.mirror < 0 ∧ 1 < s.mirror) := by omega
          clear hA hR
          rcases hd with q0 | ⟨q0, q1⟩ | ⟨q0, q1, q2⟩ | ⟨q0, q1, q2, q3⟩ | ⟨q0, q1, q2, q3, q4⟩ | ⟨q0, q1, q2, q3, q4, q5⟩ | ⟨q0, q1, q2, q3, q4, q5, q6⟩ | ⟨q0, q1, q2, q3, q4, q5, q6, q7⟩
          all_goals
            go_wp2_with fail
            go_ret
            exact ⟨by rw [h5.out]; rfl, hB⟩
        · have hAr : Hid (¬ ArgBad s) := hA
          have a0 : ¬ s.cols < 1 := by omega
          have a1 : ¬ 8 < s.cols := by omega
          have a2 : ¬ s.start < 0 := by omega
          have a3 : ¬ 2 < s.start := by omega
          have a4 : ¬ s.balance < 0 := by omega
          have a5 : ¬ 1 < s.balance := by omega
          have a6 : ¬ s.mirror < 0 := by omega
          have a7 : ¬ 1 < s.mirror := by omega
          clear hA
          have hn : Hid (NumOk s) := numOk_of hR.out hAr.out
          have hgp := gaps_le hn.out
          have hro : Hid (roomI s = s.w - s.inner - s.outer - (s.cols - 1) * s.gap) := by show roomI s = _; unfold roomI; rw [Int.mul_comm]
          rw [Int.mul_comm] at hgp
          by_cases hT : s.w - s.inner - s.outer - (s.cols - 1) * s.gap < 10 * s.cols
          · have h5 : Hid (checkI s = 5) := thin_bad hR.out hAr.out (.inl (by rw [hro.out]; exact hT))
            go_wp2_with fail
            go_ret
            exact ⟨by rw [h5.out]; rfl, hB⟩
          · have hh : Hid (∀ w, Calls Try.prog 34 #[.agg (seC s)] w fun e w' => e = .returned (.int .i64 (highI s)) ∧ Below w.heap.size w w') := rheight_any s hn.out
            have hrow := hS'.out.row
            go_wp2_with (refine wpList_load_want 24 _ rfl (by kernel_rfl) w.heap.size rfl 24 _ (0, 0) _ hrow Try.underlying24 rfl (info24 s) ?_)
            refine (hh.out _).mono ?_
            rintro e x1 ⟨rfl, B1⟩
            have hS1 : Hid (SB x1 w.heap.size s) := hS'.out.below B1 hS'.out.lt
            have D1 := hB.trans (B1.mono hB.size)
            clear c0 c1 c2 c3 c4 c5 c6 c7 c8 c9 c10 hrow
            by_cases hH : highI s < 20
            · have h5 : Hid (checkI s = 5) := thin_bad hR.out hAr.out (.inr hH)
              go_wp2_with fail
              go_ret
              exact ⟨by rw [h5.out]; rfl, D1⟩
            · have hc : Hid (checkI s = textI s) := thin_ok hR.out hAr.out (by unfold Thin; rw [hro.out]; omega)
              clear hR hAr hn hgp hro
              go_wp2_with fail
              clear a0 a1 a2 a3 a4 a5 a6 a7 w1 w2 w3 w4 g0 g1 g2 g3 g4 hT hH hge
              go_loopw [5] (fun i wr => ∃ k : Nat, k ≤ 3 ∧ i = .int .i64 k ∧ wr = x1 ∧ Hid (∀ j, j < k → ¬ 100 < (hdK s j).size ∧ ¬ 100 < (ftK s j).size)) (fun i _ => 3 - (intOf i).toNat)
              case atStart => exact ⟨0, by omega, rfl, rfl, fun j hj => by omega⟩
              case round =>
                obtain ⟨k, hk, rfl, hwr, hall⟩ := hrel
                subst wr
                by_cases hlt : k < 3
                · have hltI : (k : Int) < 3 := by omega
                  have ch := hS1.out.hd hlt
                  have cf := hS1.out.ft hlt
                  have s1 := sm_mem hsm'.out (mem_hd s hlt)
                  have s2 := sm_mem hsm'.out (mem_ft s hlt)
                  by_cases h1 : 100 < (hdK s k).size
                  · have h5 : Hid (checkI s = 3) := by show checkI s = 3; rw [hc.out, tx_long (mem_hd s hlt) h1]
                    generalize hdK s k = t1 at *
                    generalize ftK s k = t2 at *
                    clear hall
                    go_wp2_with fail
                    go_ret
                    exact ⟨by rw [h5.out]; rfl, D1⟩
                  · by_cases h2 : 100 < (ftK s k).size
                    · have h5 : Hid (checkI s = 3) := by show checkI s = 3; rw [hc.out, tx_long (mem_ft s hlt) h2]
                      generalize hdK s k = t1 at *
                      generalize ftK s k = t2 at *
                      clear hall
                      go_wp2_with fail
                      go_ret
                      exact ⟨by rw [h5.out]; rfl, D1⟩
                    · have hyes : Hid (∀ j, j < k + 1 → ¬ 100 < (hdK s j).size ∧ ¬ 100 < (ftK s j).size) := fun j hj => by
                        by_cases h : j < k
                        · exact hall.out j h
                        · obtain rfl : j = k := by omega
                          exact ⟨h1, h2⟩
                      clear hall
                      generalize hdK s k = t1 at *
                      generalize ftK s k = t2 at *
                      go_wp2_with fail
                      go_roundw
                      case rel => exact ⟨k + 1, by omega, by simp, by first | rfl | trivial, hyes⟩
                      case measure => simp [intOf]; omega
                · have hge2 : ¬ (k : Int) < 3 := by omega
                  have hb0 : Hid (textI s = if (texts s).any (fun t => !bytesB t) then 4 else 0) := tx_bytes (all_texts (p := fun t => ¬ 100 < t.size) fun j hj => hall.out j (by omega))
                  have hno : Hid (∀ t ∈ texts s, bytesB t = false → checkI s = 4) := fun t ht h => by rw [hc.out]; exact tx_no hb0.out ht h
                  have hye : Hid ((∀ t ∈ texts s, bytesB t = true) → checkI s = 0) := fun h => by rw [hc.out]; exact tx_yes hb0.out h
                  clear hall hb0 hc hlt hk
                  go_wp2_with fail
                  clear hge2
                  go_loopw [6] (fun i wr => ∃ k : Nat, k ≤ 3 ∧ i = .int .i64 k ∧ wr = x1 ∧ Hid (∀ j, j < k → bytesB (hdK s j) = true ∧ bytesB (ftK s j) = true)) (fun i _ => 3 - (intOf i).toNat)
                  case atStart => exact ⟨0, by omega, rfl, rfl, fun j hj => by omega⟩
                  case round =>
                    obtain ⟨k, hk, rfl, hwr, hall⟩ := hrel
                    subst wr
                    by_cases hlt : k < 3
                    · have hltI : (k : Int) < 3 := by omega
                      have ch := hS1.out.hd hlt
                      have cf := hS1.out.ft hlt
                      have r1 := rbytes_any (hdK s k) (by have := sm_mem hsm'.out (mem_hd s hlt); omega)
                      have r2 := rbytes_any (ftK s k) (by have := sm_mem hsm'.out (mem_ft s hlt); omega)
                      have n1 : Hid (bytesB (hdK s k) = false → checkI s = 4) := hno.out _ (mem_hd s hlt)
                      have n2 : Hid (bytesB (ftK s k) = false → checkI s = 4) := hno.out _ (mem_ft s hlt)
                      have y1 : Hid (bytesB (hdK s k) = true → bytesB (ftK s k) = true → ∀ j, j < k + 1 → bytesB (hdK s j) = true ∧ bytesB (ftK s j) = true) := fun e1 e2 j hj => by
                        by_cases h : j < k
                        · exact hall.out j h
                        · obtain rfl : j = k := by omega
                          exact ⟨e1, e2⟩
                      clear hall
                      cases h1 : bytesB (hdK s k)
                      · have h5 : Hid (checkI s = 4) := n1.out h1
                        rw [h1] at r1
                        clear h1 n1 n2 y1
                        generalize hdK s k = t1 at ch r1
                        generalize ftK s k = t2 at cf r2
                        go_wp2_with fail
                        refine (r1 _).mono ?_
                        rintro e w' ⟨rfl, hww⟩
                        subst w'
                        go_wp2_with fail
                        go_ret
                        exact ⟨by rw [h5.out]; rfl, D1⟩
                      · cases h2 : bytesB (ftK s k)
                        · have h5 : Hid (checkI s = 4) := n2.out h2
                          rw [h1] at r1
                          rw [h2] at r2
                          clear h1 h2 n1 n2 y1
                          generalize hdK s k = t1 at ch r1
                          generalize ftK s k = t2 at cf r2
                          go_wp2_with fail
                          refine (r1 _).mono ?_
                          rintro e w' ⟨rfl, hww⟩
                          subst w'
                          go_wp2_with fail
                          refine (r2 _).mono ?_
                          rintro e w' ⟨rfl, hww⟩
                          subst w'
                          go_wp2_with fail
                          go_ret
                          exact ⟨by rw [h5.out]; rfl, D1⟩
                        · have hyes : Hid (∀ j, j < k + 1 → bytesB (hdK s j) = true ∧ bytesB (ftK s j) = true) := y1.out h1 h2
                          rw [h1] at r1
                          rw [h2] at r2
                          clear h1 h2 n1 n2 y1
                          generalize hdK s k = t1 at ch r1
                          generalize ftK s k = t2 at cf r2
                          go_wp2_with fail
                          refine (r1 _).mono ?_
                          rintro e w' ⟨rfl, hww⟩
                          subst w'
                          go_wp2_with fail
                          refine (r2 _).mono ?_
                          rintro e w' ⟨rfl, hww⟩
                          subst w'
                          go_wp2_with fail
                          go_roundw
                          case rel => exact ⟨k + 1, by omega, by simp, by first | rfl | trivial, hyes⟩
                          case measure => simp [intOf]; omega
                    · have hge3 : ¬ (k : Int) < 3 := by omega
                      have h5 : Hid (checkI s = 0) := hye.out (all_texts (p := fun t => bytesB t = true) fun j hj => hall.out j (by omega))
                      clear hall
                      go_wp2_with fail
                      go_ret
                      exact ⟨by rw [h5.out]; rfl, D1⟩
end Go.Proofs.Ytglgapmjhmeonaa
