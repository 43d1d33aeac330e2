/-
  What is proved here: where no band is any more.
-/
import Derived.Test.YthdlhikpjpfpeaaBelow
import Derived.Test.YthdlhikpjpfpeaaCheck
namespace Go.Proofs.Ythdlhikpjpfpeaa
open Go.RowKit Go.Shelf

theorem clrE_no {l : List Bd} {y : Int} (h : ckI l ≠ 0) : clrE l y = ckI l ∧ clrV l y = 0 := by
  have e : clrE l y = ckI l := if_neg h
  exact ⟨e, if_neg (by rw [e]; exact h)⟩
theorem clrE_out {l : List Bd} {y : Int} (h : ckI l = 0) (h' : inB y = false) : clrE l y = 5 ∧ clrV l y = 0 := by
  have e : clrE l y = 5 := (if_pos h).trans (if_neg (by rw [h']; simp))
  exact ⟨e, if_neg (by rw [e]; decide)⟩
theorem clrE_in {l : List Bd} {y : Int} (h : ckI l = 0) (h' : inB y = true) : clrE l y = 0 ∧ clrV l y = clrF l y := by
  have e : clrE l y = 0 := (if_pos h).trans (if_pos h')
  exact ⟨e, if_pos e⟩
set_option maxRecDepth 100000 in
set_option maxHeartbeats 2000000 in
theorem clear_any (v : Value) (l : List Bd) (y : Int) (hl : l.length ≤ 9223372036854775807) (w : World) (hS : RecAt 4 bdL w v l) :
    Calls Try.prog 9 #[v, .int .i64 y] w fun e w' => e = .returned (.tuple #[.int .i64 (clrV l y), .int .i64 (clrE l y)]) ∧ Below w.heap.size w w' := by
  have hck : ∀ W, Below w.heap.size w W → Calls Try.prog 11 #[v] W fun e w' => e = .returned (.int .i64 (ckI l)) ∧ Below W.heap.size W w' := fun W hW => check_any v l hl W (hS.below hW (Nat.le_refl _))
  have hy := reaches_any y
  by_cases h0 : ckI l = 0
  · rw [h0] at hck
    have hok := ckI_ok h0
    rcases d : inB y with _ | _
    · rw [d] at hy
      rw [(clrE_out h0 d).1, (clrE_out h0 d).2]
      obtain ⟨a, cap, rfl, -⟩ := hS.ex
      clear hS h0 hok d
      go_enter Try.func9, Try.ntmps9
      go_wp2_with (first | (go_at_call 11; refine (hck _ (Below.refl _ _)).mono ?_; rintro e w1 ⟨rfl, b1⟩) | (go_at_call 20; (with_reducible refine (hy _).mono ?_); rintro e w' ⟨rfl, hw⟩; subst w'))
      go_ret2
      exact ⟨rfl, b1⟩
    · rw [d] at hy
      rw [(clrE_in h0 d).1, (clrE_in h0 d).2]
      have hbel : Hid (∀ s W, Below w.heap.size w W → Calls Try.prog 24 #[v, .int .i64 s, .int .i64 y] W fun e w' => e = .returned (.int .i64 (belF s l y)) ∧ Below W.heap.size W w') := fun s W hW => below_any v l s y hok W (hS.below hW (Nat.le_refl _))
      have hm := bel_clr l y hok
      obtain ⟨a, cap, rfl, -⟩ := hS.ex
      have h1 := hbel.out 0
      have h2 := hbel.out 2
      clear hS h0 d hbel hok
      generalize clrF l y = r at *
      generalize belF 0 l y = p at *
      generalize belF 2 l y = q at *
      have hm' : Hid (max p q = r) := hm
      clear hm
      go_enter Try.func9, Try.ntmps9
      go_wp2_with (first | (go_at_call 11; refine (hck _ (Below.refl _ _)).mono ?_; rintro e w1 ⟨rfl, b1⟩) | (go_at_call 20; (with_reducible refine (hy _).mono ?_); rintro e w' ⟨rfl, hw⟩; subst w'))
      (with_reducible refine (h1 _ b1).mono ?_)
      rintro e w2 ⟨rfl, b2⟩
      have B2 := b1.trans (b2.mono b1.size)
      go_wp2_with fail
      (with_reducible refine (h2 _ B2).mono ?_)
      rintro e w3 ⟨rfl, b3⟩
      have B3 := B2.trans (b3.mono B2.size)
      clear hck hy h1 h2 b1 b2 b3 B2
      by_cases g : p < q
      · have e : r = q := by have := hm'.out; omega
        subst e
        go_wp2_with fail
        go_ret2
        exact ⟨rfl, B3⟩
      · have e : r = p := by have := hm'.out; omega
        subst e
        go_wp2_with fail
        go_ret2
        exact ⟨rfl, B3⟩
  · rw [(clrE_no h0).1, (clrE_no h0).2]
    obtain ⟨a, cap, rfl, -⟩ := hS.ex
    have h0' : (ckI l == 0) = false := by simpa using h0
    clear hS h0
    generalize ckI l = z at *
    go_enter Try.func9, Try.ntmps9
    go_wp2_with (first | (go_at_call 11; refine (hck _ (Below.refl _ _)).mono ?_; rintro e w1 ⟨rfl, b1⟩) | (go_at_call 20; (with_reducible refine (hy _).mono ?_); rintro e w' ⟨rfl, hw⟩; subst w'))
    go_ret2
    exact ⟨rfl, b1⟩
set_option maxRecDepth 100000 in
set_option maxHeartbeats 2000000 in
theorem rclear_any (v : Value) (l : List Bd) (y : Int) (hl : l.length ≤ 9223372036854775807) (w : World) (hS : RecAt 4 bdL w v l) :
    Calls Try.prog 10 #[v, .int .i64 y] w fun e w' => e = .returned (.tuple #[.int .i64 (clrV l y), .int .i64 (clrE l y)]) ∧ Below w.heap.size w w' := by
  have hck : ∀ W, Below w.heap.size w W → Calls Try.prog 12 #[v] W fun e w' => e = .returned (.int .i64 (ckI l)) ∧ Below W.heap.size W w' := fun W hW => rcheck_any v l hl W (hS.below hW (Nat.le_refl _))
  have hy := within_any y
  by_cases h0 : ckI l = 0
  · rw [h0] at hck
    have hok := ckI_ok h0
    rcases d : inB y with _ | _
    · rw [d] at hy
      rw [(clrE_out h0 d).1, (clrE_out h0 d).2]
      obtain ⟨a, cap, rfl, -⟩ := hS.ex
      clear hS h0 hok d
      go_enter Try.func10, Try.ntmps10
      go_wp2_with (first | (go_at_call 12; refine (hck _ (Below.refl _ _)).mono ?_; rintro e w1 ⟨rfl, b1⟩) | (go_at_call 22; (with_reducible refine (hy _).mono ?_); rintro e w' ⟨rfl, hw⟩; subst w'))
      go_ret2
      exact ⟨rfl, b1⟩
    · rw [d] at hy
      rw [(clrE_in h0 d).1, (clrE_in h0 d).2]
      have hr0 : Hid (clrF (l.drop 0) y = clrF l y) := rfl
      obtain ⟨a, cap, rfl, h2⟩ := hS.ex
      have hl := hok.1
      clear hS h0 d
      generalize clrF l y = r at *
      go_enter Try.func10, Try.ntmps10
      go_wp2_with (first | (go_at_call 12; refine (hck _ (Below.refl _ _)).mono ?_; rintro e w1 ⟨rfl, b1⟩) | (go_at_call 22; (with_reducible refine (hy _).mono ?_); rintro e w' ⟨rfl, hw⟩; subst w'))
      clear hck hy
      go_loopw [1, 7] (fun u i wr => ∃ (k : Nat) (p : Int), k ≤ l.length ∧ u = .int .i64 p ∧ i = .int .i64 k ∧ Below w.heap.size w wr ∧ Hid (clrF (l.drop k) p = r)) (fun _ i _ => l.length - (intOf i).toNat)
      case atStart => exact ⟨0, y, by omega, rfl, rfl, b1, hr0⟩
      case round =>
        obtain ⟨k, p, hk, rfl, rfl, hb, hr⟩ := hrel
        by_cases hlt : k < l.length
        · rcases h2 with h2 | ⟨b, o, rfl, hbl, hc⟩
          · rw [h2] at hlt; simp at hlt
          have hlt' : (k : Int) < l.length := by omega
          have c0 : wr.cell? ⟨b, o + k * 4, none⟩ = some (.int .i64 l[k].s) := (hb.cell hbl).trans (hc k hlt 0 _ rfl)
          have c1 : wr.cell? ⟨b, o + k * 4 + 1, none⟩ = some (.int .i64 l[k].y) := (hb.cell hbl).trans (hc k hlt 1 _ rfl)
          have c2 : wr.cell? ⟨b, o + k * 4 + 2, none⟩ = some (.int .i64 l[k].h) := (hb.cell hbl).trans (hc k hlt 2 _ rfl)
          have c3 : wr.cell? ⟨b, o + k * 4 + 3, none⟩ = some (.int .i64 l[k].w) := (hb.cell hbl).trans (hc k hlt 3 _ rfl)
          obtain ⟨_, ⟨o1, o2⟩, ⟨o3, o4⟩, ⟨o5, o6⟩⟩ := hok.get k hlt
          have hr2 : Hid (clrF (l.drop (k + 1)) (max p (l[k].y + l[k].h)) = r) := by
            have := hr.out
            rw [drop_at hlt] at this
            exact this
          clear hc hr hr0 hok b1
          generalize l[k].s = x0 at *
          generalize l[k].y = x1 at *
          generalize l[k].h = x2 at *
          generalize l[k].w = x3 at *
          by_cases g : p < x1 + x2
          · have hn : Hid (clrF (l.drop (k + 1)) (x1 + x2) = r) := (by have := hr2.out; rw [(by omega : max p (x1 + x2) = x1 + x2)] at this; exact this : clrF (l.drop (k + 1)) (x1 + x2) = r)
            clear hr2
            go_wp2_with fail
            go_quiet (fail)
            go_wp2_with fail
            go_roundw
            case rel => exact ⟨k + 1, x1 + x2, by omega, rfl, by simp, below_drewN hb _, hn⟩
            case measure => simp [intOf]; omega
          · have hn : Hid (clrF (l.drop (k + 1)) p = r) := (by have := hr2.out; rw [(by omega : max p (x1 + x2) = p)] at this; exact this : clrF (l.drop (k + 1)) p = r)
            clear hr2
            go_wp2_with fail
            go_quiet (fail)
            go_wp2_with fail
            go_roundw
            case rel => exact ⟨k + 1, p, by omega, rfl, by simp, below_drewN hb _, hn⟩
            case measure => simp [intOf]; omega
        · have hn : p = r := by
            have := hr.out
            rw [List.drop_eq_nil_of_le (by omega)] at this
            exact this
          have hge : ¬ (k : Int) < l.length := by omega
          clear hr hr0 h2
          subst hn
          go_wp2_with fail
          go_ret2
          exact ⟨rfl, hb⟩
  · rw [(clrE_no h0).1, (clrE_no h0).2]
    obtain ⟨a, cap, rfl, -⟩ := hS.ex
    have h0' : (ckI l == 0) = false := by simpa using h0
    clear hS h0
    generalize ckI l = z at *
    go_enter Try.func10, Try.ntmps10
    go_wp2_with (first | (go_at_call 12; refine (hck _ (Below.refl _ _)).mono ?_; rintro e w1 ⟨rfl, b1⟩) | (go_at_call 22; (with_reducible refine (hy _).mono ?_); rintro e w' ⟨rfl, hw⟩; subst w'))
    go_ret2
    exact ⟨rfl, b1⟩

end Go.Proofs.Ythdlhikpjpfpeaa
