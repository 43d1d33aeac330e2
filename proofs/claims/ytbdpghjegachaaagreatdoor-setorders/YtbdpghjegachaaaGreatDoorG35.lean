/-
  What is proved here: the natural width of a line; its tabs are made as wide as they are to their stops.
  What is proved here: whether one of a line's masses is a tab, whether one is kerned; the shares of blanks.
  What is proved here: the blanks of a line, as pointers; whether it has a tab; what is left alone, and by how much a line is moved.
-/
import Derived.Test.YtbdpghjegachaaaGreatDoorG30
import Derived.Test.YtbdpghjegachaaaGreatDoorG27
import Derived.Test.YtbdpghjegachaaaGreatDoorG29
namespace Go.Proofs.YtbdpghjegachaaaGreatDoor
open Go.RowKit Go.Shelf

/-- How wide a mass is at a place. -/
def wdT (m : Ms) (y : Int) : Int := if m.k = 4 then 48 - y % 48 else m.w
/-- Where the line has come to, behind k masses from s on. -/
def atQ (M : Nat → Ms) (s : Nat) (x : Int) : Nat → Int
  | 0 => x
  | k + 1 => atQ M s x k + (M (s + k)).q + wdT (M (s + k)) (atQ M s x k)
/-- The masses with their tabs' widths, n of them from s on. -/
def tabM (M : Nat → Ms) (s : Nat) (x : Int) (n i : Nat) : Ms := if (s ≤ i ∧ i < s + n) ∧ (M i).k = 4 then { M i with w := 48 - atQ M s x (i - s) % 48 } else M i
structure MOk (m : Ms) : Prop where
  w0 : 0 ≤ m.w
  w1 : m.w ≤ 4095
  q0 : -64 ≤ m.q
  q1 : m.q ≤ 0
  wq : 0 ≤ m.w + m.q
  tb : m.k = 4 → m.q = 0
theorem wdT_rng {m : Ms} (h : MOk m) {y : Int} : 0 ≤ wdT m y ∧ wdT m y ≤ 4095 ∧ 0 ≤ m.q + wdT m y := by
  have := h.w0; have := h.w1; have := h.wq
  unfold wdT
  split
  · rename_i e; have := h.tb e; omega
  · omega
theorem atN_rng {M : Nat → Ms} {N : Nat} (hM : ∀ i, i < N → MOk (M i)) {s : Nat} {x : Int} (hx : 0 ≤ x) : ∀ k, s + k ≤ N → x ≤ atQ M s x k ∧ atQ M s x k ≤ x + 4095 * k
  | 0, _ => by simp [atQ]
  | k + 1, h => by
    have ih := atN_rng hM (s := s) hx k (by omega)
    have h1 := wdT_rng (hM (s + k) (by omega)) (y := atQ M s x k)
    have h2 := (hM (s + k) (by omega)).q1
    show x ≤ atQ M s x k + (M (s + k)).q + wdT (M (s + k)) (atQ M s x k) ∧ atQ M s x k + (M (s + k)).q + wdT (M (s + k)) (atQ M s x k) ≤ _
    omega
theorem tabM_no {M : Nat → Ms} {s : Nat} {x : Int} {k : Nat} (h : (M (s + k)).k ≠ 4) (i : Nat) : tabM M s x (k + 1) i = tabM M s x k i := by
  unfold tabM
  by_cases e : i = s + k
  · subst e; rw [if_neg (fun hh => h hh.2), if_neg (fun hh => h hh.2)]
  · by_cases hh : (s ≤ i ∧ i < s + k) ∧ (M i).k = 4
    · rw [if_pos hh, if_pos ⟨⟨hh.1.1, by omega⟩, hh.2⟩]
    · rw [if_neg hh, if_neg (fun g => hh ⟨⟨g.1.1, by omega⟩, g.2⟩)]
theorem tabM_at {M : Nat → Ms} {s : Nat} {x : Int} {k : Nat} : tabM M s x k (s + k) = M (s + k) := by unfold tabM; rw [if_neg (by omega)]
theorem tabM_yes {M : Nat → Ms} {s : Nat} {x : Int} {k : Nat} (h : (M (s + k)).k = 4) (i : Nat) : tabM M s x (k + 1) i = if i = s + k then { tabM M s x k (s + k) with w := 48 - atQ M s x k % 48 } else tabM M s x k i := by
  rw [tabM_at]
  unfold tabM
  by_cases e : i = s + k
  · subst e; rw [if_pos ⟨⟨by omega, by omega⟩, h⟩, if_pos rfl, show s + k - s = k by omega]
  · rw [if_neg e]
    by_cases hh : (s ≤ i ∧ i < s + k) ∧ (M i).k = 4
    · rw [if_pos hh, if_pos ⟨⟨hh.1.1, by omega⟩, hh.2⟩]
    · rw [if_neg hh, if_neg (fun g => hh ⟨⟨g.1.1, by omega⟩, g.2⟩)]
theorem tabM_is {M : Nat → Ms} {s : Nat} {x : Int} {k : Nat} : (tabM M s x (k + 1) (s + k)).q = (M (s + k)).q ∧ (tabM M s x (k + 1) (s + k)).w = wdT (M (s + k)) (atQ M s x k) ∧ (tabM M s x (k + 1) (s + k)).k = (M (s + k)).k := by
  by_cases h : (M (s + k)).k = 4
  · rw [tabM_yes h, if_pos rfl, tabM_at]; exact ⟨rfl, by unfold wdT; rw [if_pos h], rfl⟩
  · rw [tabM_no h, tabM_at]; exact ⟨rfl, by unfold wdT; rw [if_neg h], rfl⟩
/-- Where things lie while a line is walked along. -/
structure NS (w : World) (g o N c : Nat) (W : World) (y : Int) (M : Nat → Ms) : Prop where
  t : Turns (XG g N) w W
  b : Boxed W c 3 (.int .i64 y)
  f : RF W g o N M
theorem NS.below {w : World} {g o N c : Nat} {W W' : World} {y : Int} {M : Nat → Ms} (h : NS w g o N c W y M) (hb : Below W.heap.size W W') : NS w g o N c W' y M :=
  ⟨h.t.trans ((Turns.of_below hb).mono fun _ k => k.elim), (hb.block c (Boxed.lt h.b)).trans h.b, h.f.below hb h.f.lt⟩
theorem NS.drew {w : World} {g o N c : Nat} {W : World} {y : Int} {M : Nat → Ms} (h : NS w g o N c W y M) : NS w g o N c W.drew y M := h.below ⟨rfl, rfl, rfl, Nat.le_refl _, fun _ _ => rfl⟩
/-- A step of the closure. -/
theorem NS.step {w : World} {g o N c : Nat} {W : World} {y : Int} {M : Nat → Ms} (h : NS w g o N c W y M) (hcg : ¬ XG g N c) (hcw : w.heap.size ≤ c) {k d : Int} (hy : -1000000000000 ≤ y ∧ y ≤ 1000000000000) (hk : -1000000000000 ≤ k ∧ k ≤ 1000000000000) (hd : -1000000000000 ≤ d ∧ d ≤ 1000000000000) :
    Calls Tryz.prog 103 #[.int .i64 k, .int .i64 d, .pointer (some ⟨c, 0, none⟩)] W fun e w' => e = .returned (.int .i64 (y + k)) ∧ NS w g o N c w' (y + k + d) M := by
  refine (step_any c y k d hy hk hd W h.b).mono ?_
  rintro e w' ⟨rfl, rfl⟩
  have ht := Turns.setCell (X := fun k => k = c) W (p := ⟨c, 0, none⟩) rfl (.int .i64 (y + k + d))
  exact ⟨rfl, h.t.trans' ht (fun i hi => .inr (by omega)), Boxed.set _ h.b, h.f.turns ht (fun hN e => hcg ⟨e.symm, hN⟩)⟩
/-- A tab's width is written. -/
theorem NS.setW {w : World} {g o N c : Nat} {W : World} {y : Int} {M : Nat → Ms} (h : NS w g o N c W y M) (hcg : ¬ XG g N c) {p : Nat} (hp : p < N) (u : Int) : NS w g o N c (W.setCell ⟨g, o + p * 6 + 4, none⟩ (.int .i64 u)) y (fun i => if i = p then { M p with w := u } else M i) := by
  have ht := Turns.setCell (X := XG g N) W (p := ⟨g, o + p * 6 + 4, none⟩) ⟨rfl, by omega⟩ (.int .i64 u)
  exact ⟨h.t.trans ht, (ht.block c (Boxed.lt h.b) hcg).trans h.b, h.f.setW hp u⟩
set_option maxRecDepth 100000 in
set_option maxHeartbeats 2000000 in
theorem lnat_any (w : World) (r g o N s n cap q : Nat) (M : Nat → Ms) (x hy rm : Int) (l : Bool) (va : Value) (hq : Hid (q = o + s * 6)) (hs : s + n ≤ N) (hN : N ≤ 4096) (a : Option Addr) (ha : 0 < n → a = some ⟨g, q, none⟩) (hcap : n ≤ cap) (hM : ∀ i, i < N → MOk (M i)) (hx : 0 ≤ x ∧ x ≤ 4095) (hhy : 0 ≤ hy ∧ hy ≤ 4095) (hR : RF w g o N M) (hW : RW w r va (.slice a n cap) x hy rm l) (hrg : ¬ XG g N r) :
    Calls Tryz.prog 30 #[.pointer (some ⟨r, 0, none⟩)] w fun e w' => e = .returned (.int .i64 (atQ M s x n + hy - x)) ∧ Turns (XG g N) w w' ∧ RF w' g o N (tabM M s x n) := by
  have hn' : (n : Int) ≤ 4096 := by omega
  obtain ⟨x0, x1⟩ := hx
  obtain ⟨y0, y1⟩ := hhy
  have hw := walk_any x w
  have hc := hW.c
  obtain ⟨_, c1, c2, c3, _, _⟩ := hc
  have hlt := hW.lt
  have hglt := hR.lt
  have hB1 := (Below.refl w.heap.size w).alloc (Nat.le_refl _) (.cells #[.int .i64 x] 3)
  have hN1 : Hid (NS w g o N w.heap.size (w.alloc (.cells #[.int .i64 x] 3)) x (tabM M s x 0)) := ⟨(Turns.of_below hB1).mono fun _ k => k.elim, Boxed.new _ _ _, (hR.below hB1 hglt).congr fun i _ => by unfold tabM; rw [if_neg (by omega)]⟩
  have hrow : Hid (∀ W, Turns (XG g N) w W → W.cell? ⟨r, 1, none⟩ = some (.slice a n cap) ∧ W.cell? ⟨r, 2, none⟩ = some (.int .i64 x) ∧ W.cell? ⟨r, 3, none⟩ = some (.int .i64 hy)) := fun W ht => by
    have := (hW.turns ht hrg).c
    exact ⟨this.2.1, this.2.2.1, this.2.2.2.1⟩
  have hcg : Hid (¬ XG g N w.heap.size) := fun e => by have := hglt e.2; have := e.1; omega
  have hat : Hid (∀ k, s + k ≤ N → 0 ≤ atQ M s x k ∧ atQ M s x k ≤ 16777216) := fun k hk => by
    have := atN_rng hM (s := s) x0 k hk
    omega
  have hMh : Hid (∀ i, i < N → MOk (M i)) := hM
  have c1' := (hrow.out _ hN1.out.t).1
  clear hW hR hM hB1
  generalize hc0 : w.heap.size = c at *
  replace hc0 : Hid (w.heap.size = c) := hc0
  generalize hw1 : w.alloc (.cells #[.int .i64 x] 3) = w1 at *
  go_enter Tryz.func30, Tryz.ntmps30
  go_wp2_with (go_at_call 61; refine hw.mono ?_; rintro e w' ⟨rfl, rfl⟩; unfold wkV)
  go_loopw [16] (fun i wr => ∃ k : Nat, k ≤ n ∧ i = .int .i64 k ∧ Hid (NS w g o N c wr (atQ M s x k) (tabM M s x k))) (fun i _ => n - (intOf i).toNat)
  case atStart => exact ⟨0, by omega, rfl, hN1⟩
  case round =>
    obtain ⟨k, hk, rfl, hI⟩ := hrel
    have d1 := hrow.out _ hI.out.t
    obtain ⟨d1, d2, d3⟩ := d1
    by_cases hlt : k < n
    · obtain rfl := ha (by omega)
      have hlt' : (k : Int) < n := by omega
      have hsk : s + k < N := by omega
      have eq0 : o + (s + k) * 6 = q + k * 6 := by have := hq.out; omega
      have hc := hI.out.f.c hsk
      rw [eq0, tabM_at] at hc
      obtain ⟨_, _, m2, _, m4, m5⟩ := hc
      have ⟨a0, a1⟩ := hat.out k (by omega)
      have hmk := hMh.out _ hsk
      have hq0 := hmk.q0
      have hq1 := hmk.q1
      have hws := wdT_rng hmk (y := atQ M s x k)
      have hcl : Hid (∀ w' y, Hid (NS w g o N c w' y (tabM M s x (k + 1))) → w'.cell? ⟨g, q + k * 6 + 5, none⟩ = some (.int .i64 (M (s + k)).q) ∧ w'.cell? ⟨g, q + k * 6 + 4, none⟩ = some (.int .i64 (wdT (M (s + k)) (atQ M s x k)))) := fun w' y h => by
        have h7 := h.out.f.c hsk
        rw [eq0] at h7
        obtain ⟨_, _, _, _, h8, h9⟩ := h7
        rw [tabM_is.2.1] at h8
        rw [tabM_is.1] at h9
        exact ⟨h9, h8⟩
      by_cases h4 : (M (s + k)).k = 4
      · have hst0 : Hid (∀ W, NS w g o N c W (atQ M s x k) (tabM M s x k) → Calls Tryz.prog 103 #[.int .i64 0, .int .i64 0, .pointer (some ⟨c, 0, none⟩)] W fun e w' => e = .returned (.int .i64 (atQ M s x k)) ∧ Hid (NS w g o N c w' (atQ M s x k) (tabM M s x k))) := fun W hW => by
          refine (hW.step hcg.out (Nat.le_of_eq hc0.out) (by omega) (by omega) (by omega)).mono ?_
          rintro e w' ⟨rfl, h⟩
          simp only [Int.add_zero] at h
          exact ⟨by rw [Int.add_zero], h⟩
        have hto : Hid (∀ W, NS w g o N c W (atQ M s x k) (tabM M s x k) → Calls Tryz.prog 62 #[.int .i64 (atQ M s x k)] W fun e w' => e = .returned (.int .i64 (48 - atQ M s x k % 48)) ∧ (∃ u, w'.cell? ⟨g, q + k * 6 + 4, none⟩ = some u) ∧ w'.frozen? ⟨g, q + k * 6 + 4, none⟩ = false ∧ (w'.setCell ⟨g, q + k * 6 + 4, none⟩ (.int .i64 (48 - atQ M s x k % 48))).cell? ⟨g, q + k * 6 + 4, none⟩ = some (.int .i64 (48 - atQ M s x k % 48)) ∧ (w'.setCell ⟨g, q + k * 6 + 4, none⟩ (.int .i64 (48 - atQ M s x k % 48))).cell? ⟨g, q + k * 6 + 5, none⟩ = some (.int .i64 (M (s + k)).q) ∧ Hid (NS w g o N c (w'.setCell ⟨g, q + k * 6 + 4, none⟩ (.int .i64 (48 - atQ M s x k % 48))) (atQ M s x k) (tabM M s x (k + 1)))) := fun W hW => by
          refine (toStop_any _ (by omega) W).mono ?_
          rintro e w' ⟨rfl, hb⟩
          have h3 := hW.below hb
          have hcc := (h3.f.c hsk).2.2.2.2.1
          have hzz := (h3.f.z hsk).1
          have h5 := h3.setW hcg.out hsk (48 - atQ M s x k % 48)
          rw [eq0] at hcc hzz h5
          have h6 : NS w g o N c (w'.setCell ⟨g, q + k * 6 + 4, none⟩ (.int .i64 (48 - atQ M s x k % 48))) (atQ M s x k) (tabM M s x (k + 1)) := ⟨h5.t, h5.b, h5.f.congr fun i _ => tabM_yes h4 i⟩
          have h7 := h6.f.c hsk
          rw [eq0] at h7
          obtain ⟨_, _, _, _, h8, h9⟩ := h7
          rw [tabM_is.2.1, wdT, if_pos h4] at h8
          rw [tabM_is.1] at h9
          exact ⟨rfl, ⟨_, hcc⟩, hzz, h8, h9, h6⟩
        have e4 : wdT (M (s + k)) (atQ M s x k) = 48 - atQ M s x k % 48 := if_pos h4
        have hst : Hid (∀ W, NS w g o N c W (atQ M s x k) (tabM M s x (k + 1)) → Calls Tryz.prog 103 #[.int .i64 (M (s + k)).q, .int .i64 (48 - atQ M s x k % 48), .pointer (some ⟨c, 0, none⟩)] W fun e w' => ∃ v, e = .returned v ∧ Hid (NS w g o N c w' (atQ M s x (k + 1)) (tabM M s x (k + 1)))) := fun W hW => by
          refine (hW.step hcg.out (Nat.le_of_eq hc0.out) (by omega) (by omega) (by rw [e4] at hws; omega)).mono ?_
          rintro e w' ⟨rfl, h⟩
          rw [← e4] at h
          exact ⟨_, rfl, h⟩
        rw [e4] at hcl
        have h4' : ((M (s + k)).k == 4) = true := by simpa using h4
        clear hws e4 hmk
        generalize (M (s + k)).k = kk at *
        generalize (M (s + k)).q = qq at *
        generalize (M (s + k)).w = ww at *
        generalize 48 - atQ M s x k % 48 = dd at *
        go_wp2_with (first | (go_at_call 103; refine (hst0.out _ hI.out).mono ?_; rintro e w2 ⟨rfl, hI2⟩) | (go_at_call 62; refine (hto.out _ hI2.out).mono ?_; rintro e w3 ⟨rfl, ⟨uu, g1⟩, g2, g3, g4, hN2⟩))
        generalize w3.setCell ⟨g, q + k * 6 + 4, none⟩ (.int .i64 dd) = w4 at *
        have hN3 : Hid (NS w g o N c w4.drew (atQ M s x k) (tabM M s x (k + 1))) := hN2.out.drew
        clear hI hI2 hto hst0 g1 g2
        refine nt_r8 _ (fun _ _ _ _ _ h => h) _ _ c g (q + k * 6) qq dd (fun w' => Hid (NS w g o N c w' (atQ M s x (k + 1)) (tabM M s x (k + 1)))) w4 ⟨g4, g3⟩ ((hst.out _ hN3.out).mono (fun e w' h => by obtain ⟨v, h1, h2⟩ := h; exact ⟨v, h1, h2, hcl.out w' _ h2⟩)) ?_
        intro vv w' hN4
        unfold fr30
        go_wp2_with fail
        exact ⟨⟨k + 1, by omega, by simp, hN4⟩, by simp [intOf]; omega⟩
      · have hN2 : Hid (NS w g o N c wr (atQ M s x k) (tabM M s x (k + 1))) := ⟨hI.out.t, hI.out.b, hI.out.f.congr fun i _ => tabM_no h4 i⟩
        have e4 : wdT (M (s + k)) (atQ M s x k) = (M (s + k)).w := if_neg h4
        have hst : Hid (∀ W, NS w g o N c W (atQ M s x k) (tabM M s x (k + 1)) → Calls Tryz.prog 103 #[.int .i64 (M (s + k)).q, .int .i64 (M (s + k)).w, .pointer (some ⟨c, 0, none⟩)] W fun e w' => ∃ v, e = .returned v ∧ Hid (NS w g o N c w' (atQ M s x (k + 1)) (tabM M s x (k + 1)))) := fun W hW => by
          refine (hW.step hcg.out (Nat.le_of_eq hc0.out) (by omega) (by omega) (by rw [e4] at hws; omega)).mono ?_
          rintro e w' ⟨rfl, h⟩
          rw [← e4] at h
          exact ⟨_, rfl, h⟩
        have hN3 : Hid (NS w g o N c wr.drew (atQ M s x k) (tabM M s x (k + 1))) := hN2.out.drew
        rw [e4] at hcl
        have h4' : ((M (s + k)).k == 4) = false := by simpa using h4
        clear hI hws e4 hmk
        generalize (M (s + k)).k = kk at *
        generalize (M (s + k)).q = qq at *
        generalize (M (s + k)).w = ww at *
        go_wp2_with fail
        refine nt_r8 _ (fun _ _ _ _ _ h => h) _ _ c g (q + k * 6) qq ww (fun w' => Hid (NS w g o N c w' (atQ M s x (k + 1)) (tabM M s x (k + 1)))) wr ⟨m5, m4⟩ ((hst.out _ hN3.out).mono (fun e w' h => by obtain ⟨v, h1, h2⟩ := h; exact ⟨v, h1, h2, hcl.out w' _ h2⟩)) ?_
        intro vv w' hN4
        unfold fr30
        go_wp2_with fail
        exact ⟨⟨k + 1, by omega, by simp, hN4⟩, by simp [intOf]; omega⟩
    · obtain rfl : k = n := by omega
      have hlt' : ¬ (k : Int) < k := by omega
      have ⟨a0, a1⟩ := hat.out k (by omega)
      have hst : Hid (∀ W, NS w g o N c W (atQ M s x k) (tabM M s x k) → Calls Tryz.prog 103 #[.int .i64 0, .int .i64 0, .pointer (some ⟨c, 0, none⟩)] W fun e w' => e = .returned (.int .i64 (atQ M s x k)) ∧ Turns (XG g N) w w' ∧ RF w' g o N (tabM M s x k) ∧ w'.cell? ⟨r, 2, none⟩ = some (.int .i64 x) ∧ w'.cell? ⟨r, 3, none⟩ = some (.int .i64 hy)) := fun W hW => by
        refine (hW.step hcg.out (Nat.le_of_eq hc0.out) (by omega) (by omega) (by omega)).mono ?_
        rintro e w' ⟨rfl, h⟩
        simp only [Int.add_zero] at h
        exact ⟨by rw [Int.add_zero], h.t, h.f, (hrow.out _ h.t).2⟩
      have hN3 : Hid (NS w g o N c wr.drew (atQ M s x k) (tabM M s x k)) := hI.out.drew
      clear hI ha
      go_wp2_with fail
      refine nt_r10 _ (fun _ _ _ _ _ h => h) _ _ c r x hy (atQ M s x k) (fun w' => Turns (XG g N) w w' ∧ RF w' g o N (tabM M s x k)) wr ⟨d2, d3⟩ x0 x1 y0 y1 a0 (by omega) ((hst.out _ hN3.out).mono (fun e w' h => ⟨h.1, ⟨h.2.1, h.2.2.1⟩, h.2.2.2⟩)) ?_
      intro w' hF
      unfold fr30
      go_wp2_with fail
      go_ret
      exact ⟨rfl, hF⟩
end Go.Proofs.YtbdpghjegachaaaGreatDoor

namespace Go.Proofs.YtbdpghjegachaaaGreatDoor
open Go.RowKit Go.Shelf

/-- Is one of n masses from s on so? -/
def aniB (P : Ms → Bool) (M : Nat → Ms) (s : Nat) : Nat → Bool
  | 0 => false
  | k + 1 => aniB P M s k || P (M (s + k))
theorem anyB_no {P : Ms → Bool} {M : Nat → Ms} {s : Nat} : ∀ {n : Nat}, (∀ i, i < n → P (M (s + i)) = false) → aniB P M s n = false
  | 0, _ => rfl
  | n + 1, h => by
    show (aniB P M s n || P (M (s + n))) = false
    rw [anyB_no (fun i hi => h i (by omega)), h n (by omega)]; rfl
theorem anyB_yes {P : Ms → Bool} {M : Nat → Ms} {s i : Nat} : ∀ {n : Nat}, i < n → P (M (s + i)) = true → aniB P M s n = true
  | n + 1, h, hp => by
    show (aniB P M s n || P (M (s + n))) = true
    by_cases e : i = n
    · subst e; rw [hp, Bool.or_true]
    · rw [anyB_yes (by omega) hp]; rfl
theorem anyB_iff {P : Ms → Bool} {M : Nat → Ms} {s n : Nat} : aniB P M s n = true ↔ ∃ i, i < n ∧ P (M (s + i)) = true := by
  constructor
  · intro h
    apply Classical.byContradiction
    intro hn
    have e : aniB P M s n = false := anyB_no fun i hi => by
      cases hp : P (M (s + i))
      · rfl
      · exact absurd ⟨i, hi, hp⟩ hn
    rw [e] at h
    cases h
  · rintro ⟨i, hi, hp⟩; exact anyB_yes hi hp
set_option maxRecDepth 100000 in
set_option maxHeartbeats 400000 in
theorem kern56 (m : Ms) (w : World) : Calls Tryz.prog 56 #[.agg (msL m).toArray] w fun e w' => e = .returned (.bool (m.q != 0)) ∧ Below w.heap.size w w' := by
  obtain ⟨x0, x1, x2, x3, x4, x5⟩ := m
  show Calls Tryz.prog 56 #[.agg #[.int .i64 x0, .int .i64 x1, .int .i64 x2, .int .i64 x3, .int .i64 x4, .int .i64 x5]] w _
  have hB := (Below.refl w.heap.size w).alloc (Nat.le_refl _) (.cells #[.int .i64 x0, .int .i64 x1, .int .i64 x2, .int .i64 x3, .int .i64 x4, .int .i64 x5] 53)
  go_enter Tryz.func56, Tryz.ntmps56
  go_wp2_with fail
  go_ret
  exact ⟨rfl, hB⟩
set_option maxRecDepth 100000 in
set_option maxHeartbeats 400000 in
theorem tab133 (m : Ms) (w : World) : Calls Tryz.prog 133 #[.agg (msL m).toArray] w fun e w' => e = .returned (.bool (m.k == 4)) ∧ Below w.heap.size w w' := by
  obtain ⟨x0, x1, x2, x3, x4, x5⟩ := m
  show Calls Tryz.prog 133 #[.agg #[.int .i64 x0, .int .i64 x1, .int .i64 x2, .int .i64 x3, .int .i64 x4, .int .i64 x5]] w _
  have hB := (Below.refl w.heap.size w).alloc (Nat.le_refl _) (.cells #[.int .i64 x0, .int .i64 x1, .int .i64 x2, .int .i64 x3, .int .i64 x4, .int .i64 x5] 53)
  go_enter Tryz.func133, Tryz.ntmps133
  go_wp2_with fail
  go_ret
  exact ⟨rfl, hB⟩
set_option maxRecDepth 100000 in
set_option maxHeartbeats 1000000 in
theorem index56 (P : Ms → Bool) (hfn : ∀ m W, Calls Tryz.prog 56 #[.agg (msL m).toArray] W fun e w' => e = .returned (.bool (P m)) ∧ Below W.heap.size W w') (w : World) (g o N : Nat) (M : Nat → Ms) (s n cap q : Nat) (hq : Hid (q = o + s * 6)) (hs : s + n ≤ N) (hN : N ≤ 4096) (hcap : n ≤ cap) (a : Option Addr) (ha : 0 < n → a = some ⟨g, q, none⟩) (hR : RF w g o N M) :
    Calls Tryz.prog 98 #[.slice a n cap, .func (.func 56) #[] #[]] w fun e w' => ∃ x : Int, e = .returned (.int .i64 x) ∧ decide (0 ≤ x) = aniB P M s n ∧ Below w.heap.size w w' := by
  have hn' : (n : Int) ≤ 4096 := by omega
  have hfh : Hid (∀ m W, Calls Tryz.prog 56 #[.agg (msL m).toArray] W fun e w' => e = .returned (.bool (P m)) ∧ Below W.heap.size W w') := hfn
  have hRh : Hid (RF w g o N M) := hR
  clear hfn hR
  go_enter Tryz.func98, Tryz.ntmps98
  go_wp2_with fail
  go_loopw [8] (fun i wr => ∃ k : Nat, k ≤ n ∧ i = .int .i64 k ∧ Hid (Below w.heap.size w wr ∧ ∀ j, j < k → P (M (s + j)) = false)) (fun i _ => n - (intOf i).toNat)
  case atStart => exact ⟨0, by omega, rfl, Below.refl _ _, fun j hj => by omega⟩
  case round =>
    obtain ⟨k, hk, rfl, hI⟩ := hrel
    by_cases hlt : k < n
    · obtain rfl := ha (by omega)
      have hlt' : (k : Int) < n := by omega
      have hb := hI.out.1
      have hR2 := hRh.out.below hb (fun h => hRh.out.lt h)
      have hc := hR2.c (i := s + k) (by omega)
      rw [show o + (s + k) * 6 = q + k * 6 by have := hq.out; omega] at hc
      obtain ⟨m0, m1, m2, m3, m4, m5⟩ := hc
      have hcall : Hid (Calls Tryz.prog 56 #[.agg #[.int .i64 (M (s + k)).f, .int .i64 (M (s + k)).t, .int .i64 (M (s + k)).k, .int .i64 (M (s + k)).s, .int .i64 (M (s + k)).w, .int .i64 (M (s + k)).q]] wr fun e w' => e = .returned (.bool (P (M (s + k)))) ∧ Below wr.heap.size wr w') := hfh.out (M (s + k)) wr
      clear hR2
      cases hp : P (M (s + k))
      · have hnx : Hid (∀ w', Below wr.heap.size wr w' → Below w.heap.size w w' ∧ ∀ j, j < k + 1 → P (M (s + j)) = false) := fun w' h => ⟨hb.trans (h.mono hb.size), fun j hj => by
          by_cases e : j = k
          · subst e; exact hp
          · exact hI.out.2 j (by omega)⟩
        rw [hp] at hcall
        clear hI hb hp
        generalize M (s + k) = m at *
        obtain ⟨x0, x1, x2, x3, x4, x5⟩ := m
        go_wp2_with (go_at_call 56; refine hcall.out.mono ?_; rintro e w2 ⟨rfl, hb2⟩; have hI2 := hnx.out w2 hb2; replace hI2 : Hid _ := hI2)
        exact ⟨⟨k + 1, by omega, by simp, hI2⟩, by simp [intOf]; omega⟩
      · have hfin : Hid (aniB P M s n = true) := anyB_yes hlt hp
        rw [hp] at hcall
        clear hI hp
        generalize M (s + k) = m at *
        obtain ⟨x0, x1, x2, x3, x4, x5⟩ := m
        go_wp2_with (go_at_call 56; refine hcall.out.mono ?_; rintro e w2 ⟨rfl, hb2⟩)
        go_ret
        exact ⟨_, rfl, by rw [hfin.out]; simp, hb.trans (hb2.mono hb.size)⟩
    · obtain rfl : k = n := by omega
      have hlt' : ¬ (k : Int) < k := by omega
      go_wp2_with fail
      go_ret
      exact ⟨_, rfl, by rw [anyB_no hI.out.2]; rfl, hI.out.1⟩
set_option maxRecDepth 100000 in
set_option maxHeartbeats 1000000 in
theorem contains56 (P : Ms → Bool) (hfn : ∀ m W, Calls Tryz.prog 56 #[.agg (msL m).toArray] W fun e w' => e = .returned (.bool (P m)) ∧ Below W.heap.size W w') (w : World) (g o N : Nat) (M : Nat → Ms) (s n cap q : Nat) (hq : Hid (q = o + s * 6)) (hs : s + n ≤ N) (hN : N ≤ 4096) (hcap : n ≤ cap) (a : Option Addr) (ha : 0 < n → a = some ⟨g, q, none⟩) (hR : RF w g o N M) :
    Calls Tryz.prog 55 #[.slice a n cap, .func (.func 56) #[] #[]] w fun e w' => e = .returned (.bool (aniB P M s n)) ∧ Below w.heap.size w w' := by
  have hi := index56 P hfn w g o N M s n cap q hq hs hN hcap a ha hR
  clear hR ha hfn
  generalize aniB P M s n = z at *
  go_enter Tryz.func55, Tryz.ntmps55
  go_wp2_with (refine hi.mono ?_; rintro e w2 ⟨y, rfl, hy, hb2⟩)
  go_ret
  exact ⟨by rw [← hy]; rfl, hb2⟩
set_option maxRecDepth 100000 in
set_option maxHeartbeats 1000000 in
theorem index133 (P : Ms → Bool) (hfn : ∀ m W, Calls Tryz.prog 133 #[.agg (msL m).toArray] W fun e w' => e = .returned (.bool (P m)) ∧ Below W.heap.size W w') (w : World) (g o N : Nat) (M : Nat → Ms) (s n cap q : Nat) (hq : Hid (q = o + s * 6)) (hs : s + n ≤ N) (hN : N ≤ 4096) (hcap : n ≤ cap) (a : Option Addr) (ha : 0 < n → a = some ⟨g, q, none⟩) (hR : RF w g o N M) :
    Calls Tryz.prog 98 #[.slice a n cap, .func (.func 133) #[] #[]] w fun e w' => ∃ x : Int, e = .returned (.int .i64 x) ∧ decide (0 ≤ x) = aniB P M s n ∧ Below w.heap.size w w' := by
  have hn' : (n : Int) ≤ 4096 := by omega
  have hfh : Hid (∀ m W, Calls Tryz.prog 133 #[.agg (msL m).toArray] W fun e w' => e = .returned (.bool (P m)) ∧ Below W.heap.size W w') := hfn
  have hRh : Hid (RF w g o N M) := hR
  clear hfn hR
  go_enter Tryz.func98, Tryz.ntmps98
  go_wp2_with fail
  go_loopw [8] (fun i wr => ∃ k : Nat, k ≤ n ∧ i = .int .i64 k ∧ Hid (Below w.heap.size w wr ∧ ∀ j, j < k → P (M (s + j)) = false)) (fun i _ => n - (intOf i).toNat)
  case atStart => exact ⟨0, by omega, rfl, Below.refl _ _, fun j hj => by omega⟩
  case round =>
    obtain ⟨k, hk, rfl, hI⟩ := hrel
    by_cases hlt : k < n
    · obtain rfl := ha (by omega)
      have hlt' : (k : Int) < n := by omega
      have hb := hI.out.1
      have hR2 := hRh.out.below hb (fun h => hRh.out.lt h)
      have hc := hR2.c (i := s + k) (by omega)
      rw [show o + (s + k) * 6 = q + k * 6 by have := hq.out; omega] at hc
      obtain ⟨m0, m1, m2, m3, m4, m5⟩ := hc
      have hcall : Hid (Calls Tryz.prog 133 #[.agg #[.int .i64 (M (s + k)).f, .int .i64 (M (s + k)).t, .int .i64 (M (s + k)).k, .int .i64 (M (s + k)).s, .int .i64 (M (s + k)).w, .int .i64 (M (s + k)).q]] wr fun e w' => e = .returned (.bool (P (M (s + k)))) ∧ Below wr.heap.size wr w') := hfh.out (M (s + k)) wr
      clear hR2
      cases hp : P (M (s + k))
      · have hnx : Hid (∀ w', Below wr.heap.size wr w' → Below w.heap.size w w' ∧ ∀ j, j < k + 1 → P (M (s + j)) = false) := fun w' h => ⟨hb.trans (h.mono hb.size), fun j hj => by
          by_cases e : j = k
          · subst e; exact hp
          · exact hI.out.2 j (by omega)⟩
        rw [hp] at hcall
        clear hI hb hp
        generalize M (s + k) = m at *
        obtain ⟨x0, x1, x2, x3, x4, x5⟩ := m
        go_wp2_with (go_at_call 133; refine hcall.out.mono ?_; rintro e w2 ⟨rfl, hb2⟩; have hI2 := hnx.out w2 hb2; replace hI2 : Hid _ := hI2)
        exact ⟨⟨k + 1, by omega, by simp, hI2⟩, by simp [intOf]; omega⟩
      · have hfin : Hid (aniB P M s n = true) := anyB_yes hlt hp
        rw [hp] at hcall
        clear hI hp
        generalize M (s + k) = m at *
        obtain ⟨x0, x1, x2, x3, x4, x5⟩ := m
        go_wp2_with (go_at_call 133; refine hcall.out.mono ?_; rintro e w2 ⟨rfl, hb2⟩)
        go_ret
        exact ⟨_, rfl, by rw [hfin.out]; simp, hb.trans (hb2.mono hb.size)⟩
    · obtain rfl : k = n := by omega
      have hlt' : ¬ (k : Int) < k := by omega
      go_wp2_with fail
      go_ret
      exact ⟨_, rfl, by rw [anyB_no hI.out.2]; rfl, hI.out.1⟩
set_option maxRecDepth 100000 in
set_option maxHeartbeats 1000000 in
theorem contains133 (P : Ms → Bool) (hfn : ∀ m W, Calls Tryz.prog 133 #[.agg (msL m).toArray] W fun e w' => e = .returned (.bool (P m)) ∧ Below W.heap.size W w') (w : World) (g o N : Nat) (M : Nat → Ms) (s n cap q : Nat) (hq : Hid (q = o + s * 6)) (hs : s + n ≤ N) (hN : N ≤ 4096) (hcap : n ≤ cap) (a : Option Addr) (ha : 0 < n → a = some ⟨g, q, none⟩) (hR : RF w g o N M) :
    Calls Tryz.prog 55 #[.slice a n cap, .func (.func 133) #[] #[]] w fun e w' => e = .returned (.bool (aniB P M s n)) ∧ Below w.heap.size w w' := by
  have hi := index133 P hfn w g o N M s n cap q hq hs hN hcap a ha hR
  clear hR ha hfn
  generalize aniB P M s n = z at *
  go_enter Tryz.func55, Tryz.ntmps55
  go_wp2_with (refine hi.mono ?_; rintro e w2 ⟨y, rfl, hy, hb2⟩)
  go_ret
  exact ⟨by rw [← hy]; rfl, hb2⟩
end Go.Proofs.YtbdpghjegachaaaGreatDoor

namespace Go.Proofs.YtbdpghjegachaaaGreatDoor
open Go.RowKit Go.Shelf

/-- Which of n masses from s on are blanks. -/
def bkL (M : Nat → Ms) (s : Nat) : Nat → List Nat
  | 0 => []
  | k + 1 => bkL M s k ++ (if (M (s + k)).k = 3 then [k] else [])
theorem bkL_len (M : Nat → Ms) (s : Nat) : ∀ n, (bkL M s n).length ≤ n
  | 0 => Nat.le_refl _
  | k + 1 => by have := bkL_len M s k; unfold bkL; split <;> simp <;> omega
theorem bkL_yes {M : Nat → Ms} {s k : Nat} (h : (M (s + k)).k = 3) : bkL M s (k + 1) = bkL M s k ++ [k] := by show _ ++ _ = _; rw [if_pos h]
theorem bkL_no {M : Nat → Ms} {s k : Nat} (h : (M (s + k)).k ≠ 3) : bkL M s (k + 1) = bkL M s k := by show _ ++ _ = _; rw [if_neg h, List.append_nil]
theorem bkL_mem {M : Nat → Ms} {s i : Nat} : ∀ {n : Nat}, i ∈ bkL M s n ↔ i < n ∧ (M (s + i)).k = 3
  | 0 => by simp [bkL]
  | n + 1 => by
    have ih := bkL_mem (M := M) (s := s) (i := i) (n := n)
    by_cases h : (M (s + n)).k = 3
    · rw [bkL_yes h, List.mem_append, ih]
      constructor
      · rintro (⟨h1, h2⟩ | h1)
        · exact ⟨by omega, h2⟩
        · obtain rfl : i = n := by simpa using h1
          exact ⟨by omega, h⟩
      · rintro ⟨h1, h2⟩
        by_cases e : i = n
        · right; simp [e]
        · left; exact ⟨by omega, h2⟩
    · rw [bkL_no h, ih]
      constructor
      · rintro ⟨h1, h2⟩; exact ⟨by omega, h2⟩
      · rintro ⟨h1, h2⟩
        refine ⟨?_, h2⟩
        by_cases e : i = n
        · subst e; exact absurd h2 h
        · omega
def ptL (g q : Nat) (i : Nat) : List Value := [.pointer (some ⟨g, q + i * 6, none⟩)]
theorem ptL_len (g q i : Nat) : (ptL g q i).length = 1 := rfl
theorem ptL_one (g q i : Nat) : ∀ u ∈ ptL g q i, u.oneCell' = true := by intro u hu; simp [ptL] at hu; subst hu; rfl
theorem el151 : ElOk 151 119 1 8 := ElOk.of Tryz.underlying151 (by kernel_rfl)
/-- What stands while blanks are gathered. -/
structure BkI (w : World) (v : Value) (g q : Nat) (qs : List Nat) (W : World) : Prop where
  low : Below w.heap.size w W
  row : W.ownsRow w.heap.size 119 1 v qs.length (qs.flatMap (ptL g q))
set_option maxRecDepth 100000 in
set_option maxHeartbeats 1000000 in
theorem blanks_any (w : World) (r g o N s n cap q : Nat) (M : Nat → Ms) (x hy rm : Int) (l : Bool) (va : Value) (hq : Hid (q = o + s * 6)) (hs : s + n ≤ N) (hN : N ≤ 4096) (a : Option Addr) (ha : 0 < n → a = some ⟨g, q, none⟩) (hcap : n ≤ cap) (hR : RF w g o N M) (hW : RW w r va (.slice a n cap) x hy rm l) :
    Calls Tryz.prog 105 #[.pointer (some ⟨r, 0, none⟩)] w fun e w' => ∃ v, e = .returned v ∧ w'.ownsRow w.heap.size 119 1 v (bkL M s n).length ((bkL M s n).flatMap (ptL g q)) ∧ Below w.heap.size w w' := by
  have hn' : (n : Int) ≤ 4096 := by omega
  have hrow : Hid (∀ W, Below w.heap.size w W → W.cell? ⟨r, 1, none⟩ = some (.slice a n cap)) := fun W hb => (hW.below hb hW.lt).c.2.1
  have hcl : Hid (∀ W k, k < n → Below w.heap.size w W → W.cell? ⟨g, q + k * 6 + 2, none⟩ = some (.int .i64 (M (s + k)).k)) := fun W k hk hb => by
    have := ((hR.below hb (fun h => hR.lt h)).c (i := s + k) (by omega)).2.2.1
    rw [show o + (s + k) * 6 = q + k * 6 by have := hq.out; omega] at this
    exact this
  have c1 := hrow.out w (Below.refl _ _)
  have hI0 : Hid (BkI w (.slice none 0 0) g q (bkL M s 0) w) := ⟨Below.refl _ _, World.ownsRow_nil _ _ _ _⟩
  clear hR hW
  go_enter Tryz.func105, Tryz.ntmps105
  go_wp2_with fail
  go_loopw [3, 10] (fun v i wr => ∃ k : Nat, k ≤ n ∧ i = .int .i64 k ∧ Hid (BkI w v g q (bkL M s k) wr)) (fun _ i _ => n - (intOf i).toNat)
  case atStart => exact ⟨0, by omega, rfl, hI0⟩
  case round =>
    obtain ⟨k, hk, rfl, hI⟩ := hrel
    by_cases hlt : k < n
    · obtain rfl := ha (by omega)
      have hlt' : (k : Int) < n := by omega
      have d1 := hrow.out wr hI.out.low
      have d2 := hcl.out wr k hlt hI.out.low
      obtain ⟨va, vc, rfl, hvc⟩ := row_slice (ptL_len g q) hI.out.row
      have hlen := bkL_len M s k
      by_cases h3 : (M (s + k)).k = 3
      · have h3' : ((M (s + k)).k == 3) = true := by simpa using h3
        have hnx : Hid (bkL M s (k + 1) = bkL M s k ++ [k]) := bkL_yes h3
        clear h3
        generalize (M (s + k)).k = kk at *
        generalize bkL M s k = qs at *
        generalize hqs1 : bkL M s (k + 1) = qs1 at *
        replace hqs1 : Hid (bkL M s (k + 1) = qs1) := hqs1
        go_wp2_with (refine wpList_app2 (k := 1) (f := ptL g q) (w0 := wr) (bytes := 8) rfl el151 (ptL_len g q) (ptL_one g q) (by omega) (by omega) _ _ rfl w.heap.size (.slice va qs.length vc) qs k rfl hI.out.row hI.out.low.size (by omega) rfl rfl ?_; intro v' w6 hr6 hT6 hw6; have hI6 : Hid (BkI w v' g q qs1 w6) := ⟨hI.out.low.trans (hT6.below hI.out.low.size (fun b hb => (hI.out.row.lt b hb).1)), by rw [hnx.out]; exact hr6⟩; clear hr6 hT6 hw6)
        exact ⟨⟨k + 1, by omega, by simp, by rw [hqs1.out]; exact hI6⟩, by simp [intOf]; omega⟩
      · have h3' : ((M (s + k)).k == 3) = false := by simpa using h3
        have hI2 : Hid (BkI w (.slice va (bkL M s k).length vc) g q (bkL M s (k + 1)) wr) := ⟨hI.out.low, by rw [bkL_no h3]; exact hI.out.row⟩
        clear h3 hI
        generalize (M (s + k)).k = kk at *
        generalize (bkL M s k).length = ln at *
        go_wp2_with fail
        exact ⟨⟨k + 1, by omega, by simp, hI2⟩, by simp [intOf]; omega⟩
    · obtain rfl : k = n := by omega
      have hlt' : ¬ (k : Int) < k := by omega
      go_wp2_with fail
      go_ret
      exact ⟨_, rfl, hI.out.row, hI.out.low⟩
set_option maxRecDepth 100000 in
set_option maxHeartbeats 1000000 in
theorem hasTab_any (w : World) (r g o N s n cap q : Nat) (M : Nat → Ms) (x hy rm : Int) (l : Bool) (va : Value) (hq : Hid (q = o + s * 6)) (hs : s + n ≤ N) (hN : N ≤ 4096) (a : Option Addr) (ha : 0 < n → a = some ⟨g, q, none⟩) (hcap : n ≤ cap) (hR : RF w g o N M) (hW : RW w r va (.slice a n cap) x hy rm l) :
    Calls Tryz.prog 106 #[.pointer (some ⟨r, 0, none⟩)] w fun e w' => e = .returned (.bool (aniB (fun m => m.k == 4) M s n)) ∧ Below w.heap.size w w' := by
  have hc := contains133 (fun m => m.k == 4) tab133 w g o N M s n cap q hq hs hN hcap a ha hR
  have c1 := hW.c.2.1
  clear hR hW ha
  generalize aniB (fun m => m.k == 4) M s n = z at *
  go_enter Tryz.func106, Tryz.ntmps106
  go_wp2_with (go_at_call 55; refine hc.mono ?_; rintro e w2 ⟨rfl, hb2⟩)
  go_ret
  exact ⟨rfl, hb2⟩
set_option maxRecDepth 100000 in
set_option maxHeartbeats 400000 in
theorem even_any (v : Value) (w : World) : Calls Tryz.prog 107 #[v] w fun e w' => e = .returned (.int .i64 1) ∧ w' = w := by
  go_enter Tryz.func107, Tryz.ntmps107
  go_wp2_with fail
  go_ret
  exact ⟨rfl, rfl⟩
set_option maxRecDepth 100000 in
set_option maxHeartbeats 400000 in
theorem third_any (g p : Nat) (y : Int) (hy : 0 ≤ y) (hy2 : y ≤ 1000000000000) (w : World) (hc : w.cell? ⟨g, p + 4, none⟩ = some (.int .i64 y)) : Calls Tryz.prog 108 #[.pointer (some ⟨g, p, none⟩)] w fun e w' => e = .returned (.int .i64 (y / 3)) ∧ w' = w := by
  have hd : Int.tdiv y 3 = y / 3 := Int.tdiv_eq_ediv_of_nonneg hy
  go_enter Tryz.func108, Tryz.ntmps108
  go_wp2_with fail
  go_ret
  exact ⟨rfl, rfl⟩
set_option maxRecDepth 100000 in
set_option maxHeartbeats 400000 in
theorem stay_any (v : Value) (w : World) : Calls Tryz.prog 63 #[v] w fun e w' => e = .returned (.int .i64 0) ∧ w' = w := by
  go_enter Tryz.func63, Tryz.ntmps63
  go_wp2_with fail
  go_ret
  exact ⟨rfl, rfl⟩
/-- A number, if it is above 0. -/
def posI (x : Int) : Int := if 0 < x then x else 0
theorem posI_rng (x : Int) (h : -1000000000000 ≤ x ∧ x ≤ 1000000000000) : 0 ≤ posI x ∧ posI x ≤ 1000000000000 := by unfold posI; split <;> omega
set_option maxRecDepth 100000 in
set_option maxHeartbeats 400000 in
theorem moveAll_any (r : Nat) (a b : Value) (x hy rm : Int) (l : Bool) (w : World) (hW : RW w r a b x hy rm l) : Calls Tryz.prog 65 #[.pointer (some ⟨r, 0, none⟩)] w fun e w' => e = .returned (.int .i64 (posI rm)) ∧ w' = w := by
  have c4 := hW.c.2.2.2.2.1
  clear hW
  unfold posI
  by_cases h : 0 < rm
  · rw [if_pos h]
    have h' : ¬ rm < 0 := by omega
    go_enter Tryz.func65, Tryz.ntmps65
    go_wp2_with fail
    all_goals (go_ret; exact ⟨by first | rfl | (simp; omega), rfl⟩)
  · rw [if_neg h]
    go_enter Tryz.func65, Tryz.ntmps65
    go_wp2_with fail
    all_goals (go_ret; exact ⟨by first | rfl | (simp; omega), rfl⟩)
set_option maxRecDepth 100000 in
set_option maxHeartbeats 400000 in
theorem moveHalf_any (r : Nat) (a b : Value) (x hy rm : Int) (l : Bool) (hm : rm ≤ 1000000000000) (w : World) (hW : RW w r a b x hy rm l) : Calls Tryz.prog 66 #[.pointer (some ⟨r, 0, none⟩)] w fun e w' => e = .returned (.int .i64 (posI rm / 2)) ∧ w' = w := by
  have c4 := hW.c.2.2.2.2.1
  clear hW
  unfold posI
  by_cases h : 0 < rm
  · rw [if_pos h]
    have h' : ¬ rm < 0 := by omega
    have hd : Int.tdiv rm 2 = rm / 2 := Int.tdiv_eq_ediv_of_nonneg (by omega)
    go_enter Tryz.func66, Tryz.ntmps66
    go_wp2_with fail
    all_goals (go_ret; exact ⟨by first | rfl | (simp; omega), rfl⟩)
  · rw [if_neg h]
    go_enter Tryz.func66, Tryz.ntmps66
    go_wp2_with fail
    all_goals (go_ret; exact ⟨by first | rfl | (simp; omega), rfl⟩)
end Go.Proofs.YtbdpghjegachaaaGreatDoor
