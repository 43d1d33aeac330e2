/-
  What is proved here: what Check answers of a list of spans, and the document's own Check; when two lists of spans are the same.
-/
import Derived.Test.YtjakmekifpbldaaWalkA
import Derived.BigQuiet
namespace Go.Proofs.Ytjakmekifpbldaa
open Go.RowKit Go.Shelf

/-- A fact that the walk does not look into. -/
def Hid (p : Prop) : Prop := p
theorem Hid.out {p : Prop} (h : Hid p) : p := h

/-- A span whose length is any number. -/
abbrev Ip := Int × Ch
def leftI : Int → List Ip → Int
  | n, [] => if n = 0 then 0 else 5
  | n, q :: r => if q.1 < 1 ∨ n < q.1 then 5 else leftI (n - q.1) r
def checkI (qs : List Ip) (n : Int) : Int := if qs.all (fun q => mayC q.2) then leftI n qs else 2

/-- A list of spans, in memory. -/
structure SpansAt (W : World) (v : Value) (qs : List Ip) : Prop where
  ex : ∃ a cap, v = .slice a qs.length cap ∧ (qs = [] ∨ ∃ b o, a = some ⟨b, o, none⟩ ∧ b < W.heap.size ∧ ∀ (i : Nat) (h : i < qs.length),
    W.cell? ⟨b, o + i * 4, none⟩ = some (.int .i64 qs[i].1) ∧ W.cell? ⟨b, o + i * 4 + 1, none⟩ = some (.int .i64 qs[i].2.s) ∧ W.cell? ⟨b, o + i * 4 + 2, none⟩ = some (.int .i64 qs[i].2.t) ∧ W.cell? ⟨b, o + i * 4 + 3, none⟩ = some (.int .i64 qs[i].2.k))
  lens : ∀ q ∈ qs, -9223372036854775808 ≤ q.1 ∧ q.1 ≤ 9223372036854775807
  few : qs.length ≤ 9223372036854775807

theorem SpansAt.below {W W' : World} {v : Value} {qs : List Ip} (h : SpansAt W v qs) (hb : Below W.heap.size W W') : SpansAt W' v qs := by
  obtain ⟨a, cap, rfl, h2⟩ := h.ex
  refine ⟨⟨a, cap, rfl, ?_⟩, h.lens, h.few⟩
  rcases h2 with h2 | ⟨b, o, rfl, hlt, hc⟩
  · exact .inl h2
  · refine .inr ⟨b, o, rfl, Nat.lt_of_lt_of_le hlt hb.size, fun i hi => ?_⟩
    obtain ⟨c0, c1, c2, c3⟩ := hc i hi
    have hw : ∀ j v, W.cell? ⟨b, j, none⟩ = some v → W'.cell? ⟨b, j, none⟩ = some v := fun j v hv => by
      rw [← hv]; exact hb.cell hlt
    exact ⟨hw _ _ c0, hw _ _ c1, hw _ _ c2, hw _ _ c3⟩

theorem drop_eq {α : Type} (l : List α) {k : Nat} (h : k < l.length) : l.drop k = l[k] :: l.drop (k + 1) := List.drop_eq_getElem_cons h

set_option maxHeartbeats 1000000 in
theorem refMay_any (c : Ch) (w : World) : Calls Try.prog 11 #[chV c] w fun e w' => e = .returned (.bool (mayC c)) ∧ Below w.heap.size w w' := by
  unfold chV
  go_enter Try.func11, Try.ntmps11
  go_wp2
  all_goals (go_ret; refine ⟨?_, (Below.refl _ w).alloc (Nat.le_refl _) _⟩; congr 2; simp_all [mayC] <;> first | omega | (rw [Bool.eq_iff_iff]; simp; omega))

theorem check_no {qs : List Ip} {n : Int} {k : Nat} (h : k < qs.length) (hm : mayC qs[k].2 = false) : checkI qs n = 2 := by
  unfold checkI
  rw [if_neg]
  intro ha
  have := List.all_eq_true.1 ha qs[k] (List.getElem_mem h)
  simp only [hm] at this
  cases this
theorem all_take_succ {qs : List Ip} {k : Nat} (h : k < qs.length) (ha : (qs.take k).all (fun q => mayC q.2) = true) (hm : mayC qs[k].2 = true) : (qs.take (k + 1)).all (fun q => mayC q.2) = true := by
  rw [List.take_succ_eq_append_getElem h, List.all_append, ha]; simp [hm]
theorem check_yes {qs : List Ip} {n : Int} (ha : (qs.take qs.length).all (fun q => mayC q.2) = true) : checkI qs n = leftI n qs := by
  rw [List.take_length] at ha; unfold checkI; rw [if_pos ha]
theorem left_step {qs : List Ip} {k : Nat} {x : Int} (h : k < qs.length) (h1 : 1 ≤ qs[k].1) (h2 : qs[k].1 ≤ x) : leftI x (qs.drop k) = leftI (x - qs[k].1) (qs.drop (k + 1)) := by
  rw [drop_eq qs h, leftI, if_neg (by omega)]
theorem left_no {qs : List Ip} {k : Nat} {x : Int} (h : k < qs.length) (h1 : qs[k].1 < 1 ∨ x < qs[k].1) : leftI x (qs.drop k) = 5 := by
  rw [drop_eq qs h, leftI, if_pos h1]

set_option maxRecDepth 100000 in
set_option maxHeartbeats 2000000 in
theorem check_any (v : Value) (qs : List Ip) (n : Int) (hn : -9223372036854775808 ≤ n ∧ n ≤ 9223372036854775807) (w : World) (hS : SpansAt w v qs) :
    Calls Try.prog 16 #[v, .int .i64 n] w fun e w' => e = .returned (.int .i64 (checkI qs n)) ∧ Below w.heap.size w w' := by
  obtain ⟨a, cap, rfl, h2⟩ := hS.ex
  have hlen := hS.few
  have hlens : Hid (∀ q ∈ qs, -9223372036854775808 ≤ q.1 ∧ q.1 ≤ 9223372036854775807) := hS.lens
  go_enter Try.func16, Try.ntmps16
  go_wp2_with fail
  go_loopw [12] (fun i wr => ∃ k : Nat, k ≤ qs.length ∧ i = .int .i64 k ∧ Below w.heap.size w wr ∧ Hid ((qs.take k).all (fun q => mayC q.2) = true)) (fun i _ => qs.length - (intOf i).toNat)
  case atStart => exact ⟨0, by omega, rfl, Below.refl _ _, rfl⟩
  case round =>
    obtain ⟨k, hk, rfl, hb, hall⟩ := hrel
    by_cases hlt : k < qs.length
    · rcases h2 with h2 | ⟨b, o, rfl, hbl, hc⟩
      · rw [h2] at hlt; simp at hlt
      · obtain ⟨c0, c1, c2, c3⟩ := hc k hlt
        have hw : ∀ j v, w.cell? ⟨b, j, none⟩ = some v → wr.cell? ⟨b, j, none⟩ = some v := fun j v hv => by rw [← hv]; exact hb.cell hbl
        have d0 := hw _ _ c0; have d1 := hw _ _ c1; have d2 := hw _ _ c2; have d3 := hw _ _ c3
        clear hw c0 c1 c2 c3 hc
        have hmay := may_any qs[k].2
        have hno := check_no (n := n) hlt
        have hyes := all_take_succ hlt hall
        have hno' : Hid (mayC qs[k].2 = false → checkI qs n = 2) := hno
        have hyes' : Hid (mayC qs[k].2 = true → (qs.take (k + 1)).all (fun q => mayC q.2) = true) := hyes
        clear hno hyes
        unfold chV at hmay
        cases hm : mayC qs[k].2
        · rw [hm] at hmay
          have h5 := hno'.out hm
          clear hno' hyes' hall
          go_wp2_with (go_at_call 10; refine (hmay _).mono ?_; rintro e w' ⟨rfl, hb'⟩)
          go_ret
          refine ⟨by first | rfl | (rw [h5]; rfl), ?_⟩
          have hba := hb.alloc hb.size (Obj.cells #[.int .i64 qs[k].1, .int .i64 qs[k].2.s, .int .i64 qs[k].2.t, .int .i64 qs[k].2.k] 61)
          exact hba.trans (hb'.mono hba.size)
        · rw [hm] at hmay
          have h5 : Hid _ := hyes'.out hm
          clear hno' hyes' hall
          go_wp2_with (go_at_call 10; refine (hmay _).mono ?_; rintro e w' ⟨rfl, hb'⟩)
          have hba := hb.alloc hb.size (Obj.cells #[.int .i64 qs[k].1, .int .i64 qs[k].2.s, .int .i64 qs[k].2.t, .int .i64 qs[k].2.k] 61)
          go_roundw
          case rel => exact ⟨k + 1, by omega, by simp, hba.trans (hb'.mono hba.size), h5⟩
          case measure => simp [intOf]; omega
    · obtain rfl : k = qs.length := by omega
      have hck : Hid (checkI qs n = leftI n qs) := check_yes hall
      clear hall
      go_wp2_with fail
      go_loopw [7, 24] (fun x i wr => ∃ (k : Nat) (y : Int), k ≤ qs.length ∧ i = .int .i64 k ∧ x = .int .i64 y ∧ (-9223372036854775808 ≤ y ∧ y ≤ 9223372036854775807) ∧ Below w.heap.size w wr ∧ Hid (leftI y (qs.drop k) = leftI n qs)) (fun _ i _ => qs.length - (intOf i).toNat)
      case atStart => exact ⟨0, n, by omega, rfl, rfl, hn, hb, by simp [Hid]⟩
      case round =>
        obtain ⟨k, y, hk, rfl, rfl, hy, hb2, hl⟩ := hrel
        by_cases hlt : k < qs.length
        · rcases h2 with h2 | ⟨b, o, rfl, hbl, hc⟩
          · rw [h2] at hlt; simp at hlt
          · obtain ⟨c0, c1, c2, c3⟩ := hc k hlt
            have hw : ∀ j v, w.cell? ⟨b, j, none⟩ = some v → wr.cell? ⟨b, j, none⟩ = some v := fun j v hv => by rw [← hv]; exact hb2.cell hbl
            have d0 := hw _ _ c0; have d1 := hw _ _ c1; have d2 := hw _ _ c2; have d3 := hw _ _ c3
            clear hw c0 c1 c2 c3 hc
            have hq := hlens.out qs[k] (List.getElem_mem hlt)
            have hba := hb2.alloc hb2.size (Obj.cells #[.int .i64 qs[k].1, .int .i64 qs[k].2.s, .int .i64 qs[k].2.t, .int .i64 qs[k].2.k] 61)
            by_cases hg : qs[k].1 < 1 ∨ y < qs[k].1
            · have h5 : checkI qs n = 5 := by rw [hck.out, ← hl.out, left_no hlt hg]
              clear hck hl
              by_cases hg1 : qs[k].1 < 1
              · go_wp2_with fail
                go_ret
                exact ⟨by first | rfl | (rw [h5]; rfl), hba⟩
              · have hg2 : y < qs[k].1 := by omega
                go_wp2_with fail
                go_ret
                exact ⟨by first | rfl | (rw [h5]; rfl), hba⟩
            · have h6 : Hid (leftI (y - qs[k].1) (qs.drop (k + 1)) = leftI n qs) := by
                show _ = _
                rw [← left_step hlt (by omega) (by omega)]; exact hl.out
              have hg1 : ¬ qs[k].1 < 1 := by omega
              have hg2 : ¬ y < qs[k].1 := by omega
              clear hl hg
              go_wp2_with fail
              go_roundw
              case rel => exact ⟨k + 1, y - qs[k].1, by omega, by simp, rfl, by omega, hba, h6⟩
              case measure => simp [intOf]; omega
        · obtain rfl : k = qs.length := by omega
          have h7 : checkI qs n = if y = 0 then 0 else 5 := by
            rw [hck.out, ← hl.out, List.drop_length]; rfl
          clear hck hl
          by_cases hy0 : y = 0
          · subst hy0
            go_wp2_with fail
            go_ret
            exact ⟨by first | rfl | (rw [h7]; rfl), hb2⟩
          · go_wp2_with fail
            go_ret
            exact ⟨by first | rfl | (rw [h7, if_neg hy0]; done) | (rw [h7, if_neg hy0]; rfl), hb2⟩
end Go.Proofs.Ytjakmekifpbldaa
