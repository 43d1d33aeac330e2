/-
  What is proved here: how spans and looks are compared; what the document's own Check answers; when two lists of spans are the same.
-/
import Derived.Test.YtjakmekifpbldaaWalkC
namespace Go.Proofs.Ytjakmekifpbldaa
open Go.RowKit Go.Shelf

theorem below_drewN {n : Nat} {w w' : World} (h : Below n w w') (q : Nat) : Below n w (w'.drewN q) := ⟨h.1, h.2, h.3, h.4, h.5⟩

theorem Ch.ext' {a b : Ch} (h1 : a.s = b.s) (h2 : a.t = b.t) (h3 : a.k = b.k) : a = b := by cases a; cases b; simp_all
theorem eqlCh (w : World) (a b : Ch) : (binOp .eql 23 (.agg #[.int .i64 a.s, .int .i64 a.t, .int .i64 a.k]) (.agg #[.int .i64 b.s, .int .i64 b.t, .int .i64 b.k])).run Try.prog w = .ok (.bool (decide (a = b))) w := by
  go_simp
  by_cases h : a = b
  · subst h; simp
  · rw [decide_eq_false h]
    split
    · split
      · split
        · exact (h (Ch.ext' (by assumption) (by assumption) (by assumption))).elim
        · rfl
      · rfl
    · rfl
theorem neqSp (w : World) (a b : Ip) : (binOp .neq 61 (.agg #[.int .i64 a.1, .int .i64 a.2.s, .int .i64 a.2.t, .int .i64 a.2.k]) (.agg #[.int .i64 b.1, .int .i64 b.2.s, .int .i64 b.2.t, .int .i64 b.2.k])).run Try.prog w = .ok (.bool (!decide (a = b))) w := by
  go_simp
  by_cases h : a = b
  · subst h; simp
  · rw [decide_eq_false h]
    split
    · split
      · split
        · split
          · exact (h (Prod.ext (by assumption) (Ch.ext' (by assumption) (by assumption) (by assumption)))).elim
          · rfl
        · rfl
      · rfl
    · rfl

set_option maxRecDepth 100000 in
set_option maxHeartbeats 2000000 in
theorem refCheck_any (v : Value) (qs : List Ip) (n : Int) (hn : -9223372036854775808 ≤ n ∧ n ≤ 9223372036854775807) (w : World) (hS : SpansAt w v qs) :
    Calls Try.prog 17 #[v, .int .i64 n] w fun e w' => e = .returned (.int .i64 (checkI qs n)) ∧ Below w.heap.size w w' := by
  obtain ⟨a, cap, rfl, h2⟩ := hS.ex
  have hlen := hS.few
  have hlens : Hid (∀ q ∈ qs, -9223372036854775808 ≤ q.1 ∧ q.1 ≤ 9223372036854775807) := hS.lens
  go_enter Try.func17, Try.ntmps17
  go_wp2_with fail
  go_loopw [5] (fun i wr => ∃ k : Nat, k ≤ qs.length ∧ i = .int .i64 k ∧ Below w.heap.size w wr ∧ Hid ((qs.take k).all (fun q => mayC q.2) = true)) (fun i _ => qs.length - (intOf i).toNat)
  case atStart => exact ⟨0, by omega, rfl, Below.refl _ _, rfl⟩
  case round =>
    obtain ⟨k, hk, rfl, hb, hall⟩ := hrel
    by_cases hlt : k < qs.length
    · rcases h2 with h2 | ⟨b, o, rfl, hbl, hc⟩
      · rw [h2] at hlt; simp at hlt
      · obtain ⟨c0, c1, c2, c3⟩ := hc k hlt
        have hw : ∀ j v, w.cell? ⟨b, j, none⟩ = some v → wr.cell? ⟨b, j, none⟩ = some v := fun j v hv => by rw [← hv]; exact hb.cell hbl
        have d0 := hw _ _ c0; have d1 := hw _ _ c1; have d2 := hw _ _ c2; have d3 := hw _ _ c3
        clear hw c0 c1 c2 c3 hc
        have hmay := refMay_any qs[k].2
        have hno' : Hid (mayC qs[k].2 = false → checkI qs n = 2) := check_no (n := n) hlt
        have hyes' : Hid (mayC qs[k].2 = true → (qs.take (k + 1)).all (fun q => mayC q.2) = true) := all_take_succ hlt hall
        unfold chV at hmay
        cases hm : mayC qs[k].2
        · rw [hm] at hmay
          have h5 := hno'.out hm
          clear hno' hyes' hall
          go_wp2_with (go_at_call 11; refine (hmay _).mono ?_; rintro e w' ⟨rfl, hb'⟩)
          go_ret
          exact ⟨by first | rfl | (rw [h5]; rfl), hb.trans (hb'.mono hb.size)⟩
        · rw [hm] at hmay
          have h5 : Hid _ := hyes'.out hm
          clear hno' hyes' hall
          go_wp2_with (go_at_call 11; refine (hmay _).mono ?_; rintro e w' ⟨rfl, hb'⟩)
          go_roundw
          case rel => exact ⟨k + 1, by omega, by simp, hb.trans (hb'.mono hb.size), h5⟩
          case measure => simp [intOf]; omega
    · obtain rfl : k = qs.length := by omega
      have hck : Hid (checkI qs n = leftI n qs) := check_yes hall
      clear hall
      go_wp2_with fail
      go_loopw [6, 7] (fun x i wr => ∃ (k : Nat) (y : Int), k ≤ qs.length ∧ i = .int .i64 k ∧ x = .int .i64 y ∧ (-9223372036854775808 ≤ y ∧ y ≤ 9223372036854775807) ∧ Below w.heap.size w wr ∧ Hid (leftI y (qs.drop k) = leftI n qs)) (fun _ i _ => qs.length - (intOf i).toNat)
      case atStart => exact ⟨0, n, by omega, rfl, rfl, hn, hb, by simp [Hid]⟩
      case round =>
        obtain ⟨k, y, hk, rfl, rfl, hy, hb2, hl⟩ := hrel
        by_cases hlt : k < qs.length
        · rcases h2 with h2 | ⟨b, o, rfl, hbl, hc⟩
          · rw [h2] at hlt; simp at hlt
          · obtain ⟨c0, c1, c2, c3⟩ := hc k hlt
            have hw : ∀ j v, w.cell? ⟨b, j, none⟩ = some v → wr.cell? ⟨b, j, none⟩ = some v := fun j v hv => by rw [← hv]; exact hb2.cell hbl
            have d0 := hw _ _ c0
            clear hw c0 c1 c2 c3 hc
            have hq := hlens.out qs[k] (List.getElem_mem hlt)
            by_cases hg : qs[k].1 < 1 ∨ y < qs[k].1
            · have h5 : checkI qs n = 5 := by rw [hck.out, ← hl.out, left_no hlt hg]
              clear hck hl
              by_cases hg1 : qs[k].1 < 1
              · go_wp2_with fail
                go_ret
                exact ⟨by first | rfl | (rw [h5]; rfl), hb2⟩
              · have hg2 : y < qs[k].1 := by omega
                go_wp2_with fail
                go_ret
                exact ⟨by first | rfl | (rw [h5]; rfl), hb2⟩
            · have h6 : Hid (leftI (y - qs[k].1) (qs.drop (k + 1)) = leftI n qs) := by
                show _ = _
                rw [← left_step hlt (by omega) (by omega)]; exact hl.out
              have hg1 : ¬ qs[k].1 < 1 := by omega
              have hg2 : ¬ y < qs[k].1 := by omega
              clear hl hg
              go_wp2_with fail
              go_roundw
              case rel => exact ⟨k + 1, y - qs[k].1, by omega, by simp, rfl, by omega, hb2, h6⟩
              case measure => simp [intOf]; omega
        · obtain rfl : k = qs.length := by omega
          have h7 : checkI qs n = if y = 0 then 0 else 5 := by
            rw [hck.out, ← hl.out, List.drop_length]; rfl
          clear hck hl
          by_cases hy0 : y = 0
          · subst hy0
            go_wp2_with fail
            go_ret
            exact ⟨by first | rfl | (rw [h7]; rfl), hb2⟩
          · go_wp2_with fail
            go_ret
            exact ⟨by first | rfl | (rw [h7, if_neg hy0]; done) | (rw [h7, if_neg hy0]; rfl), hb2⟩

theorem take_ne {qs rs : List Ip} {k : Nat} (h1 : k < qs.length) (h2 : k < rs.length) (hne : qs[k] ≠ rs[k]) : qs ≠ rs := by rintro rfl; exact hne rfl
theorem take_succ_eq {qs rs : List Ip} {k : Nat} (h1 : k < qs.length) (h2 : k < rs.length) (h : qs.take k = rs.take k) (he : qs[k] = rs[k]) : qs.take (k + 1) = rs.take (k + 1) := by
  rw [List.take_succ_eq_append_getElem h1, List.take_succ_eq_append_getElem h2, h, he]

set_option maxRecDepth 100000 in
set_option maxHeartbeats 2000000 in
theorem spans_any (v u : Value) (qs rs : List Ip) (w : World) (hS : SpansAt w v qs) (hR : SpansAt w u rs) :
    Calls Try.prog 18 #[v, u] w fun e w' => e = .returned (.bool (decide (qs = rs))) ∧ Below w.heap.size w w' := by
  obtain ⟨a, cap, rfl, h2⟩ := hS.ex
  obtain ⟨a', cap', rfl, h3⟩ := hR.ex
  have hlen := hS.few
  have hlen' := hR.few
  by_cases hl : qs.length = rs.length
  · go_enter Try.func18, Try.ntmps18
    rw [← hl]
    go_wp2_with fail
    go_loopw [5] (fun i wr => ∃ k : Nat, k ≤ qs.length ∧ i = .int .i64 k ∧ Below w.heap.size w wr ∧ Hid (qs.take k = rs.take k)) (fun i _ => qs.length - (intOf i).toNat)
    case atStart => exact ⟨0, by omega, rfl, Below.refl _ _, rfl⟩
    case round =>
      obtain ⟨k, hk, rfl, hb, hall⟩ := hrel
      by_cases hlt : k < qs.length
      · rcases h2 with h2 | ⟨b, o, rfl, hbl, hc⟩
        · rw [h2] at hlt; simp at hlt
        · rcases h3 with h3 | ⟨b', o', rfl, hbl', hc'⟩
          · rw [h3] at hl; simp at hl; rw [hl] at hlt; simp at hlt
          · have hlt' : k < rs.length := by omega
            obtain ⟨c0, c1, c2, c3⟩ := hc k hlt
            obtain ⟨e0, e1, e2, e3⟩ := hc' k hlt'
            have d0 : wr.cell? _ = _ := (hb.cell hbl).trans c0
            have d1 : wr.cell? _ = _ := (hb.cell hbl).trans c1
            have d2 : wr.cell? _ = _ := (hb.cell hbl).trans c2
            have d3 : wr.cell? _ = _ := (hb.cell hbl).trans c3
            have f0 : wr.cell? _ = _ := (hb.cell hbl').trans e0
            have f1 : wr.cell? _ = _ := (hb.cell hbl').trans e1
            have f2 : wr.cell? _ = _ := (hb.cell hbl').trans e2
            have f3 : wr.cell? _ = _ := (hb.cell hbl').trans e3
            clear c0 c1 c2 c3 hc e0 e1 e2 e3 hc'
            have hn : ∀ q, (binOp .neq 61 (.agg #[.int .i64 qs[k].1, .int .i64 qs[k].2.s, .int .i64 qs[k].2.t, .int .i64 qs[k].2.k]) (.agg #[.int .i64 rs[k].1, .int .i64 rs[k].2.s, .int .i64 rs[k].2.t, .int .i64 rs[k].2.k])).run Try.prog q = .ok (.bool (!decide (qs[k] = rs[k]))) q := fun q => neqSp q _ _
            by_cases he : qs[k] = rs[k]
            · have hs : Hid _ := take_succ_eq hlt hlt' hall he
              rw [he] at d0 d1 d2 d3
              clear hn hall
              go_wp2_with fail
              go_quiet (fail)
              rename_i nq
              go_wp2_with fail
              go_roundw
              case rel => exact ⟨k + 1, by omega, by simp, below_drewN hb _, hs⟩
              case measure => simp [intOf]; omega
            · have hne : qs ≠ rs := take_ne hlt hlt' he
              go_wp2_with fail
              go_quiet (fail)
              go_wp2_with fail
              go_ret
              exact ⟨by rw [decide_eq_false hne]; rfl, below_drewN hb _⟩
      · have he : qs = rs := by
          have := hall.out
          rwa [List.take_of_length_le (by omega), List.take_of_length_le (by omega)] at this
        clear hall
        go_wp2_with fail
        go_ret
        exact ⟨by rw [decide_eq_true he]; rfl, hb⟩
  · have hne : qs ≠ rs := fun h => hl (by rw [h])
    go_enter Try.func18, Try.ntmps18
    go_wp2_with fail
    go_ret
    exact ⟨by rw [decide_eq_false hne]; rfl, Below.refl _ _⟩
end Go.Proofs.Ytjakmekifpbldaa
