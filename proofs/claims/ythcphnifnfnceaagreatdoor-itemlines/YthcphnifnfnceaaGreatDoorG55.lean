/-
  What is proved here: what the document's Width, Gives and Give answer of any items.
-/
import Derived.Test.YthcphnifnfnceaaGreatDoorG54
namespace Go.Proofs.YthcphnifnfnceaaGreatDoor
open Go.RowKit Go.Shelf

set_option maxRecDepth 100000 in
set_option maxHeartbeats 4000000 in
theorem rwidth_any (v : Value) (l : List It) (x y z : Int) (w : World) (hS : ItsAt w v l) :
    Calls Tryz.prog 19 #[v, .int .i64 x, .int .i64 y, .int .i64 z] w fun e w' => e = .returned (.tuple #[.int .i64 (wiV l x y z), .int .i64 (wiE l x y z)]) ∧ Below w.heap.size w w' := by
  have hc := richeck_any v l w hS
  have hf := fits_any z
  by_cases hck : ckL l = 0
  · have h8 := ck_len hck
    rw [hck] at hc
    by_cases hr : (0 ≤ x ∧ x ≤ y ∧ y ≤ l.length) ∧ 0 ≤ z ∧ z ≤ 4095
    · obtain ⟨⟨h0, h1, h2⟩, h3, h4⟩ := hr
      obtain ⟨A, rfl⟩ : ∃ i : Nat, x = i := ⟨x.toNat, by omega⟩
      obtain ⟨E, rfl⟩ : ∃ i : Nat, y = i := ⟨y.toNat, by omega⟩
      obtain ⟨e1, e2⟩ := wi_ok hck (a := A) (b := E) (by omega) (by omega) h3 h4
      rw [e1, e2]
      have hE : Hid (∀ W, Below w.heap.size w W → Calls Tryz.prog 53 #[v, .int .i64 A, .int .i64 E, .int .i64 z] W fun e w' => e = .returned (.int .i64 (ntV l A E z)) ∧ Below w.heap.size w w') := fun W hb => by
        refine (rnatural2_any v l A E z hck (by omega) (by omega) h3 h4 W (hS.below hb (Nat.le_refl _))).mono ?_
        rintro e w' ⟨rfl, hb2⟩
        exact ⟨rfl, hb.trans (hb2.mono hb.size)⟩
      have hk : keB z 4095 = true := decide_eq_true ⟨h3, h4⟩
      rw [hk] at hf
      obtain ⟨a, cap, rfl, -⟩ := hS.ex
      have q1 : ¬ (E : Int) < A := by omega
      have q2 : ¬ (l.length : Int) < E := by omega
      clear hS hck e1 e2 hk
      generalize ntV l A E z = r at *
      go_enter Tryz.func19, Tryz.ntmps19
      go_wp2_with (first | (go_at_call 23; refine hc.mono ?_; rintro e w2 ⟨rfl, hb⟩) | (go_at_call 52; refine (hf _).mono ?_; rintro e w' ⟨rfl, hww⟩; subst w') | (go_at_call 53; refine (hE.out _ hb).mono ?_; clear hb; rintro e w3 ⟨rfl, hb⟩))
      go_ret2
      exact ⟨rfl, hb⟩
    · have e5 : wiE l x y z = 5 := by
        unfold wiE
        by_cases h : 0 ≤ x ∧ x ≤ y ∧ y ≤ l.length
        · have h0 : rfL l x y = 0 := by unfold rfL; rw [if_neg (by simpa using hck), if_pos h]
          rw [h0, if_neg (by simp), if_neg (fun h' => hr ⟨h, h'⟩)]
        · have h0 : rfL l x y = 5 := by unfold rfL; rw [if_neg (by simpa using hck), if_neg h]
          rw [h0, if_pos (by decide)]
      have ev : wiV l x y z = 0 := by unfold wiV; rw [e5, if_neg (by decide)]
      rw [e5, ev]
      obtain ⟨a, cap, rfl, -⟩ := hS.ex
      clear hS hck e5 ev
      by_cases g0 : x < 0
      · clear hr
        go_enter Tryz.func19, Tryz.ntmps19
        go_wp2_with (go_at_call 23; refine hc.mono ?_; rintro e w2 ⟨rfl, hb⟩)
        go_ret2
        exact ⟨rfl, hb⟩
      by_cases g1 : y < x
      · clear hr
        go_enter Tryz.func19, Tryz.ntmps19
        go_wp2_with (go_at_call 23; refine hc.mono ?_; rintro e w2 ⟨rfl, hb⟩)
        go_ret2
        exact ⟨rfl, hb⟩
      by_cases g2 : (l.length : Int) < y
      · clear hr
        go_enter Tryz.func19, Tryz.ntmps19
        go_wp2_with (go_at_call 23; refine hc.mono ?_; rintro e w2 ⟨rfl, hb⟩)
        go_ret2
        exact ⟨rfl, hb⟩
      have hk : keB z 4095 = false := decide_eq_false (fun h => hr ⟨⟨by omega, by omega, by omega⟩, h⟩)
      rw [hk] at hf
      clear hr hk
      go_enter Tryz.func19, Tryz.ntmps19
      go_wp2_with (first | (go_at_call 23; refine hc.mono ?_; rintro e w2 ⟨rfl, hb⟩) | (go_at_call 52; refine (hf _).mono ?_; rintro e w' ⟨rfl, hww⟩; subst w'))
      go_ret2
      exact ⟨rfl, hb⟩
  · have e : wiE l x y z = ckL l := by
      have h : rfL l x y = ckL l := by unfold rfL; rw [if_pos hck]
      unfold wiE
      rw [h, if_pos hck]
    have ev : wiV l x y z = 0 := by unfold wiV; rw [e, if_neg hck]
    rw [ev, e]
    have hck' : (ckL l != 0) = true := by simpa using hck
    obtain ⟨a, cap, rfl, -⟩ := hS.ex
    clear hS e ev
    generalize ckL l = n at *
    clear hck
    go_enter Tryz.func19, Tryz.ntmps19
    go_wp2_with (go_at_call 23; refine hc.mono ?_; rintro e w2 ⟨rfl, hb⟩)
    go_ret2
    exact ⟨rfl, hb⟩

set_option maxRecDepth 100000 in
set_option maxHeartbeats 4000000 in
theorem rgives_any (v : Value) (l : List It) (A E : Nat) (hck : ckL l = 0) (hA : A ≤ E) (hE : E ≤ l.length) (w : World) (hS : ItsAt w v l) :
    Calls Tryz.prog 54 #[v, .int .i64 A, .int .i64 E] w fun e w' => e = .returned (.tuple #[.int .i64 (suS l A (shN l A (E - A))), .int .i64 (suH l A (shN l A (E - A)))]) ∧ Below w.heap.size w w' := by
  have hl := ck_len hck
  obtain ⟨m, hm⟩ : ∃ m, shN l A (E - A) = m := ⟨_, rfl⟩
  have hmle : m ≤ E - A := by rw [← hm]; exact shN_le _ _ _
  have htr : Hid (∀ W, Below w.heap.size w W → Calls Tryz.prog 85 #[v, .int .i64 A, .int .i64 E] W fun e w' => e = .returned (.int .i64 ((A + m : Nat) : Int)) ∧ w' = W) := fun W hb => by
    have := rtrim_any v l A E hA hE hl W (hS.below hb (Nat.le_refl _))
    rw [hm] at this
    exact this
  have hat : Hid (∀ i, i < l.length → ∀ W, Below w.heap.size w W → ∃ b o, (∃ n c, v = .slice (some ⟨b, o, none⟩) n c) ∧ W.cell? ⟨b, o + i * 8 + 4, none⟩ = some (.int .i64 (itAt l i).s) ∧ W.cell? ⟨b, o + i * 8 + 5, none⟩ = some (.int .i64 (itAt l i).h)) := fun i hi W hb => by
    have hS' := hS.below hb (Nat.le_refl _)
    obtain ⟨a, cap, rfl, -⟩ := hS.ex
    obtain ⟨b, o, rfl, -, -, c4, c5⟩ := its_cells hS' hi
    exact ⟨b, o, ⟨_, _, rfl⟩, c4, c5⟩
  have hrg : Hid (∀ k, k ≤ m → (0 ≤ suS l A k ∧ suS l A k ≤ 4095 * (k : Int)) ∧ 0 ≤ suH l A k ∧ suH l A k ≤ 4095 * (k : Int)) := fun k hk => su_rng hck k (by omega)
  have hgo : Hid (∀ k, k < m → okP (itAt l (A + k))) := fun k hk => by
    rw [itAt_is (show A + k < l.length by omega)]
    exact ck_at hck (by omega)
  obtain ⟨a, cap, rfl, -⟩ := hS.ex
  rw [hm]
  clear hm hck hS
  go_enter Tryz.func54, Tryz.ntmps54
  go_wp2_with fail
  go_loopw [8, 9, 10] (fun p q i wr => ∃ k : Nat, k ≤ m ∧ i = .int .i64 ((A + k : Nat) : Int) ∧ p = .int .i64 (suS l A k) ∧ q = .int .i64 (suH l A k) ∧ Below w.heap.size w wr) (fun _ _ i _ => A + m - (intOf i).toNat)
  case atStart => exact ⟨0, by omega, rfl, rfl, rfl, Below.refl _ _⟩
  case round =>
    obtain ⟨k, hk, rfl, rfl, rfl, hb2⟩ := hrel
    have htk := htr.out wr hb2
    by_cases hlt : k < m
    · have hlt' : ((A + k : Nat) : Int) < ((A + m : Nat) : Int) := by omega
      have hln : ((A + k : Nat) : Int) < l.length := by omega
      obtain ⟨bb, oo, ⟨_, _, hv⟩, c4, c5⟩ := hat.out (A + k) (by omega) wr hb2
      cases hv
      have hok := hgo.out k hlt
      obtain ⟨⟨r1, r2⟩, r3, r4⟩ := hrg.out k (by omega)
      have he : Hid (suS l A (k + 1) = suS l A k + (itAt l (A + k)).s ∧ suH l A (k + 1) = suH l A k + (itAt l (A + k)).h) := ⟨rfl, rfl⟩
      generalize itAt l (A + k) = it at *
      obtain ⟨k0, f0, t0, w0, s0, h0, q0, y0⟩ := it
      unfold okP at hok
      simp only at c4 c5 hok he
      have hs0 : 0 ≤ s0 ∧ s0 ≤ 4095 := hok.2.2.2.2.1
      have hh0 : 0 ≤ h0 ∧ h0 ≤ 4095 := hok.2.2.2.2.2.1
      have hp1 : suS l A k ≤ 50000000 := by omega
      have hp2 : suH l A k ≤ 50000000 := by omega
      have hkk : Hid (k ≤ m) := hk
      have hnx : Hid (((A + k : Nat) : Int) + 1 = ((A + (k + 1) : Nat) : Int)) := by show _ = _; omega
      have hAk : ((A + k : Nat) : Int) ≤ 9000 := by omega
      clear hok hk hat hrg hgo htr r2 r4
      generalize suS l A k = p at *
      generalize suH l A k = q at *
      generalize hnn : A + k = nn at *
      generalize hmm : A + m = mm at *
      go_wp2_with (go_at_call 85; refine htk.mono ?_; rintro e w' ⟨rfl, hww⟩; subst w')
      go_roundw
      case rel => exact ⟨k + 1, by have := hkk.out; omega, by rw [← hnx.out], by rw [he.out.1], by rw [he.out.2], hb2⟩
      case measure => simp [intOf]; omega
    · obtain rfl : k = m := by omega
      have hge : ¬ ((A + k : Nat) : Int) < ((A + k : Nat) : Int) := by omega
      clear hat hgo hrg htr
      generalize hnn : A + k = nn at *
      go_wp2_with (go_at_call 85; refine htk.mono ?_; rintro e w' ⟨rfl, hww⟩; subst w')
      go_ret2
      exact ⟨rfl, hb2⟩

set_option maxRecDepth 100000 in
set_option maxHeartbeats 4000000 in
theorem rgive_any (v : Value) (l : List It) (x y : Int) (w : World) (hS : ItsAt w v l) :
    Calls Tryz.prog 21 #[v, .int .i64 x, .int .i64 y] w fun e w' => e = .returned (.tuple #[.int .i64 (giS l x y), .int .i64 (giH l x y), .int .i64 (rfL l x y)]) ∧ Below w.heap.size w w' := by
  have hc := richeck_any v l w hS
  by_cases hck : ckL l = 0
  · have h8 := ck_len hck
    rw [hck] at hc
    by_cases hr : 0 ≤ x ∧ x ≤ y ∧ y ≤ l.length
    · have e : rfL l x y = 0 := by unfold rfL; rw [if_neg (by simpa using hck), if_pos hr]
      unfold giS giH
      rw [e, if_pos rfl, if_pos rfl]
      obtain ⟨h0, h1, h2⟩ := hr
      obtain ⟨A, rfl⟩ : ∃ i : Nat, x = i := ⟨x.toNat, by omega⟩
      obtain ⟨E, rfl⟩ : ∃ i : Nat, y = i := ⟨y.toNat, by omega⟩
      rw [Int.toNat_natCast, Int.toNat_natCast]
      have hE : Hid (∀ W, Below w.heap.size w W → Calls Tryz.prog 54 #[v, .int .i64 A, .int .i64 E] W fun e w' => e = .returned (.tuple #[.int .i64 (suS l A (shN l A (E - A))), .int .i64 (suH l A (shN l A (E - A)))]) ∧ Below w.heap.size w w') := fun W hb => by
        refine (rgives_any v l A E hck (by omega) (by omega) W (hS.below hb (Nat.le_refl _))).mono ?_
        rintro e w' ⟨rfl, hb2⟩
        exact ⟨rfl, hb.trans (hb2.mono hb.size)⟩
      obtain ⟨a, cap, rfl, -⟩ := hS.ex
      have q1 : ¬ (E : Int) < A := by omega
      have q2 : ¬ (l.length : Int) < E := by omega
      clear hS hck e
      generalize suS l A (shN l A (E - A)) = r at *
      generalize suH l A (shN l A (E - A)) = r' at *
      go_enter Tryz.func21, Tryz.ntmps21
      go_wp2_with (first | (go_at_call 23; refine hc.mono ?_; rintro e w2 ⟨rfl, hb⟩) | (go_at_call 54; refine (hE.out _ hb).mono ?_; clear hb; rintro e w3 ⟨rfl, hb⟩))
      go_returns
      exact ⟨rfl, hb⟩
    · have e : rfL l x y = 5 := by unfold rfL; rw [if_neg (by simpa using hck), if_neg hr]
      unfold giS giH
      rw [e, if_neg (by decide), if_neg (by decide)]
      obtain ⟨a, cap, rfl, -⟩ := hS.ex
      clear hS hck e
      by_cases g0 : x < 0
      · clear hr
        go_enter Tryz.func21, Tryz.ntmps21
        go_wp2_with (go_at_call 23; refine hc.mono ?_; rintro e w2 ⟨rfl, hb⟩)
        go_returns
        exact ⟨rfl, hb⟩
      by_cases g1 : y < x
      · clear hr
        go_enter Tryz.func21, Tryz.ntmps21
        go_wp2_with (go_at_call 23; refine hc.mono ?_; rintro e w2 ⟨rfl, hb⟩)
        go_returns
        exact ⟨rfl, hb⟩
      have g2 : (l.length : Int) < y := by omega
      clear hr
      go_enter Tryz.func21, Tryz.ntmps21
      go_wp2_with (go_at_call 23; refine hc.mono ?_; rintro e w2 ⟨rfl, hb⟩)
      go_returns
      exact ⟨rfl, hb⟩
  · have e : rfL l x y = ckL l := by unfold rfL; rw [if_pos hck]
    unfold giS giH
    rw [e, if_neg hck, if_neg hck]
    have hck' : (ckL l != 0) = true := by simpa using hck
    obtain ⟨a, cap, rfl, -⟩ := hS.ex
    clear hS e
    generalize ckL l = n at *
    clear hck
    go_enter Tryz.func21, Tryz.ntmps21
    go_wp2_with (go_at_call 23; refine hc.mono ?_; rintro e w2 ⟨rfl, hb⟩)
    go_returns
    exact ⟨rfl, hb⟩
end Go.Proofs.YthcphnifnfnceaaGreatDoor
