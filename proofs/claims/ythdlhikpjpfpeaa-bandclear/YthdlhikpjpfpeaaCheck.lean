/-
  What is proved here: which bands may be, as Check and the document tell it.
-/
import Derived.Test.YthdlhikpjpfpeaaWalkA
import Derived.Test.YthdlhikpjpfpeaaBox
namespace Go.Proofs.Ythdlhikpjpfpeaa
open Go.RowKit Go.Shelf

set_option maxRecDepth 100000 in
set_option maxHeartbeats 2000000 in
theorem check_any (v : Value) (l : List Bd) (hl : l.length ≤ 9223372036854775807) (w : World) (hS : RecAt 4 bdL w v l) :
    Calls Try.prog 11 #[v] w fun e w' => e = .returned (.int .i64 (ckI l)) ∧ Below w.heap.size w w' := by
  obtain ⟨a, cap, rfl, h2⟩ := hS.ex
  clear hS
  by_cases h64 : 64 < l.length
  · have h64' : (64 : Int) < l.length := by omega
    have e : ckI l = 3 := if_pos h64
    rw [e]
    clear h2 e
    go_enter Try.func11, Try.ntmps11
    go_wp2
    go_ret
    exact ⟨rfl, Below.refl _ _⟩
  have h64' : ¬ (64 : Int) < l.length := by omega
  have hr0 : Hid (ckL (l.drop 0) = ckI l) := by
    show _ = _
    unfold ckI
    rw [if_neg h64]; rfl
  generalize ckI l = r at hr0 ⊢
  go_enter Try.func11, Try.ntmps11
  go_wp2_with fail
  go_loopw [10] (fun i wr => ∃ (k : Nat), k ≤ l.length ∧ i = .int .i64 k ∧ Below w.heap.size w wr ∧ Hid (ckL (l.drop k) = r)) (fun i _ => l.length - (intOf i).toNat)
  case atStart => exact ⟨0, by omega, rfl, Below.refl _ _, hr0⟩
  case round =>
    obtain ⟨k, hk, rfl, hb, hr⟩ := hrel
    by_cases hlt : k < l.length
    · rcases h2 with h2 | ⟨b, o, rfl, hbl, hc⟩
      · rw [h2] at hlt; simp at hlt
      · have hlt' : (k : Int) < l.length := by omega
        have c0 : wr.cell? ⟨b, o + k * 4, none⟩ = some (.int .i64 l[k].s) := (hb.cell hbl).trans (hc k hlt 0 _ rfl)
        have c1 : wr.cell? ⟨b, o + k * 4 + 1, none⟩ = some (.int .i64 l[k].y) := (hb.cell hbl).trans (hc k hlt 1 _ rfl)
        have c2 : wr.cell? ⟨b, o + k * 4 + 2, none⟩ = some (.int .i64 l[k].h) := (hb.cell hbl).trans (hc k hlt 2 _ rfl)
        have c3 : wr.cell? ⟨b, o + k * 4 + 3, none⟩ = some (.int .i64 l[k].w) := (hb.cell hbl).trans (hc k hlt 3 _ rfl)
        have hr2 : Hid ((if sdB l[k].s = true then (if inB l[k].y = true ∧ inB l[k].h = true ∧ inB l[k].w = true then ckL (l.drop (k + 1)) else 5) else 2) = r) := by
          have := hr.out
          rw [drop_at hlt] at this
          exact this
        have hB1 := hb.alloc hb.size (Obj.cells #[.int .i64 l[k].s, .int .i64 l[k].y, .int .i64 l[k].h, .int .i64 l[k].w] 34)
        have hs := isSide_any l[k].s
        have h1 := reaches_any l[k].y
        have h2 := reaches_any l[k].h
        have h3 := reaches_any l[k].w
        clear hc hr hr0
        generalize l[k].s = x0 at *
        generalize l[k].y = x1 at *
        generalize l[k].h = x2 at *
        generalize l[k].w = x3 at *
        rcases d0 : sdB x0 with _ | _
        · rw [d0] at hs
          have hn : 2 = r := by have := hr2.out; rw [d0] at this; exact this
          subst hn
          clear hr2 d0
          go_wp2_with (first | (go_at_call 25; (with_reducible refine (hs _).mono ?_); rintro e w' ⟨rfl, hw⟩; subst w') | (go_at_call 20; (first | with_reducible refine (h1 _).mono ?_ | with_reducible refine (h2 _).mono ?_ | with_reducible refine (h3 _).mono ?_); rintro e w' ⟨rfl, hw⟩; subst w'))
          go_ret
          exact ⟨rfl, hB1⟩
        rw [d0] at hs
        rcases d1 : inB x1 with _ | _
        · rw [d1] at h1
          have hn : 5 = r := by have := hr2.out; rw [d0, d1] at this; simpa using this
          subst hn
          clear hr2 d0 d1
          go_wp2_with (first | (go_at_call 25; (with_reducible refine (hs _).mono ?_); rintro e w' ⟨rfl, hw⟩; subst w') | (go_at_call 20; (first | with_reducible refine (h1 _).mono ?_ | with_reducible refine (h2 _).mono ?_ | with_reducible refine (h3 _).mono ?_); rintro e w' ⟨rfl, hw⟩; subst w'))
          go_ret
          exact ⟨rfl, hB1⟩
        rw [d1] at h1
        rcases d2 : inB x2 with _ | _
        · rw [d2] at h2
          have hn : 5 = r := by have := hr2.out; rw [d0, d1, d2] at this; simpa using this
          subst hn
          clear hr2 d0 d1 d2
          go_wp2_with (first | (go_at_call 25; (with_reducible refine (hs _).mono ?_); rintro e w' ⟨rfl, hw⟩; subst w') | (go_at_call 20; (first | with_reducible refine (h1 _).mono ?_ | with_reducible refine (h2 _).mono ?_ | with_reducible refine (h3 _).mono ?_); rintro e w' ⟨rfl, hw⟩; subst w'))
          go_ret
          exact ⟨rfl, hB1⟩
        rw [d2] at h2
        rcases d3 : inB x3 with _ | _
        · rw [d3] at h3
          have hn : 5 = r := by have := hr2.out; rw [d0, d1, d2, d3] at this; simpa using this
          subst hn
          clear hr2 d0 d1 d2 d3
          go_wp2_with (first | (go_at_call 25; (with_reducible refine (hs _).mono ?_); rintro e w' ⟨rfl, hw⟩; subst w') | (go_at_call 20; (first | with_reducible refine (h1 _).mono ?_ | with_reducible refine (h2 _).mono ?_ | with_reducible refine (h3 _).mono ?_); rintro e w' ⟨rfl, hw⟩; subst w'))
          go_ret
          exact ⟨rfl, hB1⟩
        rw [d3] at h3
        have hn : Hid (ckL (l.drop (k + 1)) = r) := (by have := hr2.out; rw [d0, d1, d2, d3] at this; simpa using this : ckL (l.drop (k + 1)) = r)
        clear hr2 d0 d1 d2 d3
        go_wp2_with (first | (go_at_call 25; (with_reducible refine (hs _).mono ?_); rintro e w' ⟨rfl, hw⟩; subst w') | (go_at_call 20; (first | with_reducible refine (h1 _).mono ?_ | with_reducible refine (h2 _).mono ?_ | with_reducible refine (h3 _).mono ?_); rintro e w' ⟨rfl, hw⟩; subst w'))
        go_roundw
        case rel => exact ⟨k + 1, by omega, by simp, hB1, hn⟩
        case measure => simp [intOf]; omega
    · have hn : 0 = r := by
        have := hr.out
        rw [List.drop_eq_nil_of_le (by omega)] at this
        exact this
      have hge : ¬ (k : Int) < l.length := by omega
      clear hr hr0 h2
      subst hn
      go_wp2_with fail
      go_ret
      exact ⟨rfl, hb⟩
set_option maxRecDepth 100000 in
set_option maxHeartbeats 2000000 in
theorem rcheck_any (v : Value) (l : List Bd) (hl : l.length ≤ 9223372036854775807) (w : World) (hS : RecAt 4 bdL w v l) :
    Calls Try.prog 12 #[v] w fun e w' => e = .returned (.int .i64 (ckI l)) ∧ Below w.heap.size w w' := by
  obtain ⟨a, cap, rfl, h2⟩ := hS.ex
  clear hS
  by_cases h64 : 64 < l.length
  · have h64' : (64 : Int) < l.length := by omega
    have e : ckI l = 3 := if_pos h64
    rw [e]
    clear h2 e
    go_enter Try.func12, Try.ntmps12
    go_wp2
    go_ret
    exact ⟨rfl, Below.refl _ _⟩
  have h64' : ¬ (64 : Int) < l.length := by omega
  have hr0 : Hid (ckL (l.drop 0) = ckI l) := by
    show _ = _
    unfold ckI
    rw [if_neg h64]; rfl
  generalize ckI l = r at hr0 ⊢
  go_enter Try.func12, Try.ntmps12
  go_wp2_with fail
  go_loopw [3] (fun i wr => ∃ (k : Nat), k ≤ l.length ∧ i = .int .i64 k ∧ Below w.heap.size w wr ∧ Hid (ckL (l.drop k) = r)) (fun i _ => l.length - (intOf i).toNat)
  case atStart => exact ⟨0, by omega, rfl, Below.refl _ _, hr0⟩
  case round =>
    obtain ⟨k, hk, rfl, hb, hr⟩ := hrel
    by_cases hlt : k < l.length
    · rcases h2 with h2 | ⟨b, o, rfl, hbl, hc⟩
      · rw [h2] at hlt; simp at hlt
      · have hlt' : (k : Int) < l.length := by omega
        have c0 : wr.cell? ⟨b, o + k * 4, none⟩ = some (.int .i64 l[k].s) := (hb.cell hbl).trans (hc k hlt 0 _ rfl)
        have c1 : wr.cell? ⟨b, o + k * 4 + 1, none⟩ = some (.int .i64 l[k].y) := (hb.cell hbl).trans (hc k hlt 1 _ rfl)
        have c2 : wr.cell? ⟨b, o + k * 4 + 2, none⟩ = some (.int .i64 l[k].h) := (hb.cell hbl).trans (hc k hlt 2 _ rfl)
        have c3 : wr.cell? ⟨b, o + k * 4 + 3, none⟩ = some (.int .i64 l[k].w) := (hb.cell hbl).trans (hc k hlt 3 _ rfl)
        have hr2 : Hid ((if sdB l[k].s = true then (if inB l[k].y = true ∧ inB l[k].h = true ∧ inB l[k].w = true then ckL (l.drop (k + 1)) else 5) else 2) = r) := by
          have := hr.out
          rw [drop_at hlt] at this
          exact this
        have hB1 := hb
        have hs := side_any l[k].s
        have h1 := within_any l[k].y
        have h2 := within_any l[k].h
        have h3 := within_any l[k].w
        clear hc hr hr0
        generalize l[k].s = x0 at *
        generalize l[k].y = x1 at *
        generalize l[k].h = x2 at *
        generalize l[k].w = x3 at *
        rcases d0 : sdB x0 with _ | _
        · rw [d0] at hs
          have hn : 2 = r := by have := hr2.out; rw [d0] at this; exact this
          subst hn
          clear hr2 d0
          go_wp2_with (first | (go_at_call 26; (with_reducible refine (hs _).mono ?_); rintro e w' ⟨rfl, hw⟩; subst w') | (go_at_call 22; (first | with_reducible refine (h1 _).mono ?_ | with_reducible refine (h2 _).mono ?_ | with_reducible refine (h3 _).mono ?_); rintro e w' ⟨rfl, hw⟩; subst w'))
          go_ret
          exact ⟨rfl, hB1⟩
        rw [d0] at hs
        rcases d1 : inB x1 with _ | _
        · rw [d1] at h1
          have hn : 5 = r := by have := hr2.out; rw [d0, d1] at this; simpa using this
          subst hn
          clear hr2 d0 d1
          go_wp2_with (first | (go_at_call 26; (with_reducible refine (hs _).mono ?_); rintro e w' ⟨rfl, hw⟩; subst w') | (go_at_call 22; (first | with_reducible refine (h1 _).mono ?_ | with_reducible refine (h2 _).mono ?_ | with_reducible refine (h3 _).mono ?_); rintro e w' ⟨rfl, hw⟩; subst w'))
          go_ret
          exact ⟨rfl, hB1⟩
        rw [d1] at h1
        rcases d2 : inB x2 with _ | _
        · rw [d2] at h2
          have hn : 5 = r := by have := hr2.out; rw [d0, d1, d2] at this; simpa using this
          subst hn
          clear hr2 d0 d1 d2
          go_wp2_with (first | (go_at_call 26; (with_reducible refine (hs _).mono ?_); rintro e w' ⟨rfl, hw⟩; subst w') | (go_at_call 22; (first | with_reducible refine (h1 _).mono ?_ | with_reducible refine (h2 _).mono ?_ | with_reducible refine (h3 _).mono ?_); rintro e w' ⟨rfl, hw⟩; subst w'))
          go_ret
          exact ⟨rfl, hB1⟩
        rw [d2] at h2
        rcases d3 : inB x3 with _ | _
        · rw [d3] at h3
          have hn : 5 = r := by have := hr2.out; rw [d0, d1, d2, d3] at this; simpa using this
          subst hn
          clear hr2 d0 d1 d2 d3
          go_wp2_with (first | (go_at_call 26; (with_reducible refine (hs _).mono ?_); rintro e w' ⟨rfl, hw⟩; subst w') | (go_at_call 22; (first | with_reducible refine (h1 _).mono ?_ | with_reducible refine (h2 _).mono ?_ | with_reducible refine (h3 _).mono ?_); rintro e w' ⟨rfl, hw⟩; subst w'))
          go_ret
          exact ⟨rfl, hB1⟩
        rw [d3] at h3
        have hn : Hid (ckL (l.drop (k + 1)) = r) := (by have := hr2.out; rw [d0, d1, d2, d3] at this; simpa using this : ckL (l.drop (k + 1)) = r)
        clear hr2 d0 d1 d2 d3
        go_wp2_with (first | (go_at_call 26; (with_reducible refine (hs _).mono ?_); rintro e w' ⟨rfl, hw⟩; subst w') | (go_at_call 22; (first | with_reducible refine (h1 _).mono ?_ | with_reducible refine (h2 _).mono ?_ | with_reducible refine (h3 _).mono ?_); rintro e w' ⟨rfl, hw⟩; subst w'))
        go_roundw
        case rel => exact ⟨k + 1, by omega, by simp, hB1, hn⟩
        case measure => simp [intOf]; omega
    · have hn : 0 = r := by
        have := hr.out
        rw [List.drop_eq_nil_of_le (by omega)] at this
        exact this
      have hge : ¬ (k : Int) < l.length := by omega
      clear hr hr0 h2
      subst hn
      go_wp2_with fail
      go_ret
      exact ⟨rfl, hb⟩

end Go.Proofs.Ythdlhikpjpfpeaa
