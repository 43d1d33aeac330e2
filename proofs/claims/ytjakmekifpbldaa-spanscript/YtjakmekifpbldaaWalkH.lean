/-
  What is proved here: join puts lists of spans together: as few runs as can be.
-/
import Derived.Test.YtjakmekifpbldaaWalkG
namespace Go.Proofs.Ytjakmekifpbldaa
open Go.RowKit Go.Shelf

theorem info72 : (Try.prog.info? 72).map (fun i => (i.zero, i.size, i.bytes)) = some (some (.agg #[.int .i64 0, .int .i64 0, .int .i64 0, .int .i64 0]), 4, 32) := by kernel_rfl

theorem expand_succ (ps : List Sp) {k : Nat} (h : k < ps.length) : expand (ps.take (k + 1)) = expand (ps.take k) ++ List.replicate ps[k].1 ps[k].2 := by
  rw [List.take_succ_eq_append_getElem h, expand_append]; simp [expand]

theorem span_cells {W W' : World} {base : Nat} {e : TypeId} {v : Value} {ps : List Sp} (h : RowAt W base e v ps) (hb : Below W.heap.size W W') {k : Nat} (hk : k < ps.length) :
    ∃ g cap, v = .slice (some ⟨g, 0, none⟩) ps.length cap ∧ W'.cell? ⟨g, k * 4, none⟩ = some (.int .i64 ps[k].1) ∧ W'.cell? ⟨g, k * 4 + 1, none⟩ = some (.int .i64 ps[k].2.s) ∧ W'.cell? ⟨g, k * 4 + 2, none⟩ = some (.int .i64 ps[k].2.t) ∧ W'.cell? ⟨g, k * 4 + 3, none⟩ = some (.int .i64 ps[k].2.k) := by
  rcases row_form h.out with ⟨h0, _⟩ | ⟨g, cap, hv, _, _⟩
  · rw [h0] at hk; simp at hk
  · exact ⟨g, cap, hv, row_cell (ownsRow_below h.out hb) hv hk⟩

/-- Where the run of a new span goes: a new one. -/
theorem ends_new (X : List Ch) (n : Nat) (c : Ch) (hn : 0 < n) (h : ∀ q, (rle X).getLast? = some q → q.2 ≠ c) : ends 0 (rle (X ++ List.replicate n c)) = ends 0 (rle X) ++ [(X.length + n, c)] := by
  rw [rle_new X n c hn h, ends_append]; simp [ends, rle_length]
/-- Or into the last one. -/
theorem ends_more (X : List Ch) (n m : Nat) (c : Ch) (a : List Sp) (h : rle X = a ++ [(m, c)]) : ends 0 (rle X) = ends 0 a ++ [(X.length, c)] ∧ ends 0 (rle (X ++ List.replicate n c)) = ends 0 a ++ [(X.length + n, c)] := by
  have ht := rle_length X
  rw [rle_more X n m c a h, h, ends_append, ends_append]
  rw [h, tot_append] at ht
  simp [ends, tot] at ht ⊢
  omega

theorem srcs_new2 (w : World) (o : Obj) (x0 x1 x2 x3 : Int) (e : TypeId) : Srcs ((w.alloc o).alloc (.cells #[.int .i64 x0, .int .i64 x1, .int .i64 x2, .int .i64 x3] e)) 4 (.slice (some ⟨w.heap.size + 1, 0, none⟩) 1 1) 1 [.int .i64 x0, .int .i64 x1, .int .i64 x2, .int .i64 x3] := by
  have := srcs_new (w.alloc o) x0 x1 x2 x3 e
  rwa [World.size_alloc] at this
theorem row_last (a : List Sp) (p q : Sp) (u : Value) (h : u = .int .i64 q.1) (hc : p.2 = q.2) : (rowOf (a ++ [p])).set (a.length * 4) u = rowOf (a ++ [q]) := by
  rw [rowOf_append, rowOf_append, List.set_append_right _ _ (by rw [rowOf_length]; exact Nat.le_refl _), rowOf_length, Nat.sub_self]
  simp [rowOf, spCells, h, hc]

set_option maxRecDepth 100000 in
set_option maxHeartbeats 2000000 in
theorem join_any (v : Value) (pss : List (List Sp)) (hfull : full pss.flatten) (htot : tot pss.flatten ≤ 4096) (hm : pss.length ≤ 100) (w : World) (h : ListsAt w v pss) :
    Calls Try.prog 31 #[v] w fun e w' => ∃ u, e = .returned u ∧ RowAt w' w.heap.size 72 u (ends 0 (rle (expand pss.flatten))) ∧ Below w.heap.size w w' := by
  obtain ⟨i0, hi, hz0, hz1, hz2⟩ := info_parts info72
  have hfew := full_len _ hfull
  have hcon := concat_any v pss (by omega) hm w h
  obtain ⟨b, cap, rfl, _, _⟩ := h
  have hfull' : Hid _ := hfull
  generalize hps : pss.flatten = ps at *
  clear hfull
  go_enter Try.func31, Try.ntmps31
  go_wp2_with fail
  refine hcon.mono ?_
  rintro e w1 ⟨cv, rfl, hcv, B1⟩
  obtain ⟨ca, ccap, rfl⟩ := slice_form hcv.out
  go_wp2_with fail
  go_loopw [3, 11] (fun r i wr => ∃ k : Nat, k ≤ ps.length ∧ i = .int .i64 k ∧ Below w1.heap.size w1 wr ∧ RowAt wr w1.heap.size 72 r (ends 0 (rle (expand (ps.take k))))) (fun _ i _ => ps.length - (intOf i).toNat)
  case atStart => exact ⟨0, by omega, rfl, Below.refl _ _, World.ownsRow_nil _ _ _ _⟩
  case round =>
    obtain ⟨k, hk, rfl, hb, hrow⟩ := hrel
    by_cases hlt : k < ps.length
    · obtain ⟨g, cp, hcve, d0, d1, d2, d3⟩ := span_cells hcv hb hlt
      cases hcve
      obtain ⟨X, hX⟩ : ∃ X, expand (ps.take k) = X := ⟨_, rfl⟩
      have hexp := expand_succ ps hlt
      have hpos := hfull'.out ps[k] (List.getElem_mem hlt)
      have hXl : X.length + ps[k].1 ≤ 4096 := by
        have h1 := tot_expand (ps.take (k + 1))
        have h2 := tot_take_le ps (k + 1)
        rw [hexp, hX] at h1
        simp at h1; omega
      rw [hX] at hrow hexp
      have hrl : (rle X).length ≤ 4096 := Nat.le_trans (rle_len_le X) (by omega)
      have hlo : ∀ o q, Calls Try.prog 46 #[u3] ((wr.alloc o).drewN q) fun e w' => e = .returned (.int .i64 X.length) ∧ w' = (wr.alloc o).drewN q := fun o q => by
        have hW : Below wr.heap.size wr ((wr.alloc o).drewN q) := below_drewN ((Below.refl _ _).alloc (Nat.le_refl _) _) q
        have := lengthOf_row u3 (rle X) _ w1.heap.size (by have := ownsRow_below hrow.out hW; rwa [ends_length] at this) (by omega)
        rwa [rle_length] at this
      generalize hn : ps[k].1 = n at *
      generalize hc : ps[k].2 = c at *
      have hba : ∀ o, Below w1.heap.size w1 (wr.alloc o) := fun o => hb.alloc hb.size o
      have hexp' : Hid _ := hexp
      clear hexp
      by_cases hnil : rle X = []
      · have hxe : X = [] := rle_nil X (by rw [hnil]; rfl)
        subst hxe
        have hen := ends_new [] n c hpos (by simp [rle])
        have hen' : Hid _ := hen
        obtain ⟨ra, rcap, rfl⟩ : ∃ a cap, u3 = .slice a 0 cap := by
          obtain ⟨a, cap, he⟩ := slice_form hrow.out
          exact ⟨a, cap, he⟩
        have hcell' : Hid ([Value.int .i64 (n : Int), .int .i64 c.s, .int .i64 c.t, .int .i64 c.k] = rowOf [(0 + n, c)]) := by simp [Hid, rowOf, spCells, chCells]
        clear hen
        go_wp2_with fail
        go_quiet (first | (go_at_call 46; refine Calls.quiet_of_same (hlo _ _)))
        go_wp2_with fail
        go_quiet (fail)
        go_wp2_with (at_builtin; refine wpList_append_any _ rfl _ _ 44 rfl w1.heap.size 72 i0 _ 4 32 Try.underlying44 hi hz0 hz1 hz2 rfl (by decide) _ 0 _ rfl (by exact (hrow.out.alloc _).alloc _) 1 _ _ rfl (by exact srcs_new2 wr _ _ _ _ _ 72) (by unfold maxLen; omega) (by omega) (by have := hb.size; simp; omega) ?_; intro v' w2 hown hgrow)
        have hB2 : Below w1.heap.size w1 w2 := below_grown (w1 := (wr.alloc _).alloc _) ((hba _).alloc (by have := hb.size; simp; omega) _) ((hrow.out.alloc _).alloc _) (Nat.le_refl _) (Nat.le_refl _) ⟨hgrow.1, hgrow.2, hgrow.3, hgrow.4, hgrow.5⟩
        have hown' : RowAt w2 w1.heap.size 72 v' (ends 0 (rle (expand (ps.take (k + 1))))) := by
          show w2.ownsRow _ _ _ _ _ _
          rw [hexp'.out, hen'.out, List.length_append, rowOf_append]
          rw [hcell'.out] at hown
          exact hown
        clear hown
        go_wp2_with fail
        go_roundw
        case rel => exact ⟨k + 1, by omega, by simp, hB2, hown'⟩
        case measure => simp [intOf]; omega
      · obtain ⟨a, q, hq⟩ : ∃ a q, rle X = a ++ [q] := by
          rcases List.eq_nil_or_concat (rle X) with h | ⟨a, q, h⟩
          · exact (hnil h).elim
          · exact ⟨a, q, by simpa using h⟩
        obtain ⟨g2, rcap, rfl, hgb, hgl, hcs⟩ : ∃ g2 rcap, u3 = .slice (some ⟨g2, 0, none⟩) (a.length + 1) rcap ∧ w1.heap.size ≤ g2 ∧ g2 < wr.heap.size ∧
            (wr.cell? ⟨g2, a.length * 4, none⟩ = some (.int .i64 X.length) ∧ wr.cell? ⟨g2, a.length * 4 + 1, none⟩ = some (.int .i64 q.2.s) ∧ wr.cell? ⟨g2, a.length * 4 + 2, none⟩ = some (.int .i64 q.2.t) ∧ wr.cell? ⟨g2, a.length * 4 + 3, none⟩ = some (.int .i64 q.2.k)) := by
          have hro := hrow.out
          rw [ends_length] at hro
          have hl : (rle X).length = a.length + 1 := by rw [hq]; simp
          rcases run_cells hro with ⟨h0, _⟩ | ⟨g2, rcap, hv, h1, h2, hcc⟩
          · exact (hnil h0).elim
          · refine ⟨g2, rcap, by rw [hv, hl], h1, h2, ?_⟩
            have := hcc a.length (by omega)
            have hqq : (rle X)[a.length]'(by omega) = q := by simp [hq]
            have htt : tot ((rle X).take (a.length + 1)) = X.length := by rw [← hl, List.take_length, rle_length]
            rw [hqq, htt] at this
            exact this
        obtain ⟨s0, s1, s2, s3⟩ := hcs
        have hal : a.length + 1 ≤ 4096 := by have : (rle X).length = a.length + 1 := by rw [hq]; simp
                                             omega
        have r0 : ∀ o, (wr.alloc o).cell? ⟨g2, a.length * 4, none⟩ = _ := fun o => (((Below.refl _ wr).alloc (Nat.le_refl _) o).cell hgl).trans s0
        have r1 : ∀ o, (wr.alloc o).cell? ⟨g2, a.length * 4 + 1, none⟩ = _ := fun o => (((Below.refl _ wr).alloc (Nat.le_refl _) o).cell hgl).trans s1
        have r2 : ∀ o, (wr.alloc o).cell? ⟨g2, a.length * 4 + 2, none⟩ = _ := fun o => (((Below.refl _ wr).alloc (Nat.le_refl _) o).cell hgl).trans s2
        have r3 : ∀ o, (wr.alloc o).cell? ⟨g2, a.length * 4 + 3, none⟩ = _ := fun o => (((Below.refl _ wr).alloc (Nat.le_refl _) o).cell hgl).trans s3
        have hlen3 : (ends 0 (rle X)).length = a.length + 1 := by rw [ends_length, hq]; simp
        by_cases hqc : q.2 = c
        · obtain ⟨qm, qc⟩ := q
          subst hqc
          have hmo : Hid _ := ends_more X n qm qc a hq
          have hrow2 : RowAt wr w1.heap.size 72 (.slice (some ⟨g2, 0, none⟩) (a.length + 1) rcap) (ends 0 a ++ [(X.length, qc)]) := by rw [← hmo.out.1]; exact hrow
          have hrl2 : (ends 0 a ++ [(X.length, qc)]).length = a.length + 1 := by simp [ends_length]
          have hfz : ∀ o, (wr.alloc o).frozen? ⟨g2, a.length * 4, none⟩ = false := fun o => by
            have h1 := hrow2.out.alloc o
            rw [hrl2] at h1
            exact h1.frozenAt _
          clear hq
          go_wp2_with fail
          go_quiet (first | (go_at_call 46; refine Calls.quiet_of_same (hlo _ _)))
          go_wp2_with fail
          go_quiet (fail)
          go_wp2_with fail
          refine ⟨⟨k + 1, by omega, by simp, below_set (below_drewN (hba _) _) _ _ _ hgb, ?_⟩, by simp [intOf]; omega⟩
          show World.ownsRow _ _ _ _ _ _ _
          have h1 := hrow2.out
          rw [hrl2] at h1
          have h2 := fun o q => (World.ownsRow.stored (w := (wr.alloc o).drewN q) (by exact h1.alloc o) (a.length * 4) (.int .i64 ((X.length : Int) + (n : Int)))).1
          have hea : a.length * 4 = (ends 0 a).length * 4 := by rw [ends_length]
          have h3 := row_last (ends 0 a) (X.length, qc) (X.length + n, qc) (.int .i64 ((X.length : Int) + (n : Int))) (by simp) rfl
          rw [← hea] at h3
          simp only [h3] at h2
          rw [hexp'.out, hmo.out.2]
          have hl3 : (ends 0 a ++ [(X.length + n, qc)]).length = a.length + 1 := by simp [ends_length]
          rw [hl3]
          exact h2 _ _
        · have hen' : Hid _ := ends_new X n c hpos (by rw [hq]; intro q' hq'; simp at hq'; subst hq'; exact hqc)
          have hcell' : Hid ([Value.int .i64 ((X.length : Int) + (n : Int)), .int .i64 c.s, .int .i64 c.t, .int .i64 c.k] = rowOf [(X.length + n, c)]) := by simp [Hid, rowOf, spCells, chCells]
          have hne : ∀ W, (binOp .eql 23 (.agg #[.int .i64 q.2.s, .int .i64 q.2.t, .int .i64 q.2.k]) (.agg #[.int .i64 c.s, .int .i64 c.t, .int .i64 c.k])).run Try.prog W = .ok (.bool false) W := fun W => by have := eqlCh W q.2 c; rwa [decide_eq_false hqc] at this
          have hrow2 : Hid (wr.ownsRow w1.heap.size 72 4 (.slice (some ⟨g2, 0, none⟩) (a.length + 1) rcap) (a.length + 1) (rowOf (ends 0 (rle X)))) := by
            have := hrow.out; rwa [hlen3] at this
          clear hq
          go_wp2_with fail
          go_quiet (first | (go_at_call 46; refine Calls.quiet_of_same (hlo _ _)))
          go_wp2_with fail
          go_quiet (fail)
          go_wp2_with (at_builtin; refine wpList_append_any _ rfl _ _ 44 rfl w1.heap.size 72 i0 _ 4 32 Try.underlying44 hi hz0 hz1 hz2 rfl (by decide) _ _ _ rfl (by exact (hrow2.out.alloc _).alloc _) 1 _ _ rfl (by exact srcs_new2 wr _ _ _ _ _ 72) (by unfold maxLen; omega) (by omega) (by have := hb.size; simp; omega) ?_; intro v' w2 hown hgrow)
          have hB2 : Below w1.heap.size w1 w2 := below_grown (w1 := (wr.alloc _).alloc _) ((hba _).alloc (by have := hb.size; simp; omega) _) ((hrow2.out.alloc _).alloc _) (Nat.le_refl _) (Nat.le_refl _) ⟨hgrow.1, hgrow.2, hgrow.3, hgrow.4, hgrow.5⟩
          have hown' : RowAt w2 w1.heap.size 72 v' (ends 0 (rle (expand (ps.take (k + 1))))) := by
            show w2.ownsRow _ _ _ _ _ _
            rw [hexp'.out, hen'.out, List.length_append, rowOf_append, hlen3]
            rw [hcell'.out] at hown
            exact hown
          clear hown
          go_wp2_with fail
          go_roundw
          case rel => exact ⟨k + 1, by omega, by simp, hB2, hown'⟩
          case measure => simp [intOf]; omega
    · obtain rfl : k = ps.length := by omega
      rw [List.take_length] at hrow
      go_wp2_with fail
      go_ret
      exact ⟨_, rfl, ownsRow_base hrow.out B1.size, B1.trans (hb.mono B1.size)⟩
end Go.Proofs.Ytjakmekifpbldaa
