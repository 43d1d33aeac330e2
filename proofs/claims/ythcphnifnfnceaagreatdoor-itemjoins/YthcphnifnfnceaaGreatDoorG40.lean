/-
  What is proved here: without tabs widths of lines add up, and do not hang on where a line stands (no program is named).
  What is proved here: what Pick answers; the walk of ItemJoins.
  What is proved here: the walk of ItemJoins where the items may be and none is a tab.
-/
import Derived.Test.YthcphnifnfnceaaGreatDoorG4
import Derived.Test.YthcphnifnfnceaaGreatDoorG37
namespace Go.Proofs.YthcphnifnfnceaaGreatDoor
open Go.RowKit Go.Shelf

theorem no_leap {l : List It} (h : lpB l = false) {i : Nat} (hi : i < l.length) : (itAt l i).k ≠ 4 := by
  unfold lpB at h
  rw [List.any_eq_false] at h
  have := h _ (List.getElem_mem hi)
  rw [itAt_is hi]
  simpa using this
theorem go_shift {x : It} (h : x.k ≠ 4) (p : Int) : goI p x = p + goI 0 x := by
  unfold goI
  by_cases h1 : x.k = 1 ∨ x.k = 2
  · rw [if_pos h1, if_pos h1]; omega
  · rw [if_neg h1, if_neg h1, if_neg h, if_neg h]; omega
theorem at_shift {l : List It} (h : lpB l = false) (a : Nat) (x : Int) : ∀ k, a + k ≤ l.length → atN l a x k = x + atN l a 0 k
  | 0, _ => by simp [atN]
  | k + 1, hk => by
    have ih := at_shift h a x k (by omega)
    show goI (atN l a x k) (itAt l (a + k)) = x + goI (atN l a 0 k) (itAt l (a + k))
    rw [go_shift (no_leap h (by omega)) (atN l a x k), go_shift (no_leap h (by omega)) (atN l a 0 k), ih]
    omega
theorem at_join {l : List It} (h : lpB l = false) (a m : Nat) : ∀ n, a + m + n ≤ l.length → atN l a 0 (m + n) = atN l a 0 m + atN l (a + m) 0 n
  | 0, _ => by simp [atN]
  | n + 1, hk => by
    have ih := at_join h a m n (by omega)
    show goI (atN l a 0 (m + n)) (itAt l (a + (m + n))) = atN l a 0 m + goI (atN l (a + m) 0 n) (itAt l (a + m + n))
    rw [show a + (m + n) = a + m + n by omega, go_shift (no_leap h (by omega)) (atN l a 0 (m + n)), go_shift (no_leap h (by omega)) (atN l (a + m) 0 n), ih]
    omega
theorem sh_full {l : List It} {a n : Nat} (h : (itAt l (a + n)).k ≠ 2) : shN l a (n + 1) = n + 1 := if_neg h
theorem sh_join {l : List It} {a m : Nat} (h : (itAt l (a + m)).k ≠ 2) : ∀ n, shN l a (m + (n + 1)) = m + shN l (a + m) (n + 1)
  | 0 => by
    show (if (itAt l (a + (m + 0))).k = 2 then shN l a m else m + 0 + 1) = m + (if (itAt l (a + m + 0)).k = 2 then 0 else 0 + 1)
    simp only [Nat.add_zero]; rw [if_neg h, if_neg h]
  | n + 1 => by
    have ih := sh_join h n
    show (if (itAt l (a + (m + (n + 1)))).k = 2 then shN l a (m + (n + 1)) else m + (n + 1) + 1) = m + (if (itAt l (a + m + (n + 1))).k = 2 then shN l (a + m) (n + 1) else n + 1 + 1)
    rw [show a + (m + (n + 1)) = a + m + (n + 1) by omega]
    by_cases h2 : (itAt l (a + m + (n + 1))).k = 2
    · rw [if_pos h2, if_pos h2, ih]
    · rw [if_neg h2, if_neg h2]; omega
theorem nt_shift {l : List It} (h : lpB l = false) {a b : Nat} (hb : b ≤ l.length) (hab : a ≤ b) (x : Int) : ntV l a b x = ntV l a b 0 := by
  unfold ntV
  have := shN_le l a (b - a)
  rw [at_shift h a x _ (by omega)]
  omega
theorem nt_join {l : List It} (h : lpB l = false) {a b c : Nat} (hc : c ≤ l.length) (hab : a < b) (hbc : b < c) (h1 : (itAt l (b - 1)).k ≠ 2) (h2 : (itAt l b).k ≠ 2) : ntV l a b 0 - pnI l b + ntV l b c 0 = ntV l a c 0 := by
  unfold ntV
  obtain ⟨m, rfl⟩ : ∃ m, b = a + (m + 1) := ⟨b - a - 1, by omega⟩
  obtain ⟨n, rfl⟩ : ∃ n, c = a + (m + 1) + (n + 1) := ⟨c - (a + (m + 1)) - 1, by omega⟩
  rw [show a + (m + 1) - a = m + 1 by omega, show a + (m + 1) + (n + 1) - (a + (m + 1)) = n + 1 by omega, show a + (m + 1) + (n + 1) - a = m + 1 + (n + 1) by omega]
  rw [sh_full (by rw [show a + (m + 1) - 1 = a + m by omega] at h1; exact h1), sh_join h2]
  have := shN_le l (a + (m + 1)) (n + 1)
  rw [at_join h a (m + 1) _ (by omega)]
  omega
theorem pn_is {l : List It} {b : Nat} (hb : b < l.length) : pnI l b = if (itAt l b).k = 3 then (itAt l b).w else 0 := by
  unfold pnI
  by_cases h : (itAt l b).k = 3
  · rw [if_pos ⟨hb, h⟩, if_pos h]
  · rw [if_neg (fun h' => h h'.2), if_neg h]
theorem wi_ok {l : List It} (h : ckL l = 0) {a b : Nat} (hab : a ≤ b) (hb : b ≤ l.length) {x : Int} (h0 : 0 ≤ x) (h1 : x ≤ 4095) : wiE l a b x = 0 ∧ wiV l a b x = ntV l a b x := by
  have hr : rfL l a b = 0 := by unfold rfL; rw [if_neg (by simpa using h), if_pos (by omega)]
  have he : wiE l a b x = 0 := by unfold wiE; rw [if_neg (by simpa using hr), if_pos ⟨h0, h1⟩]
  refine ⟨he, ?_⟩
  unfold wiV
  rw [if_pos he, Int.toNat_natCast, Int.toNat_natCast]
end Go.Proofs.YthcphnifnfnceaaGreatDoor

namespace Go.Proofs.YthcphnifnfnceaaGreatDoor
open Go.RowKit Go.Shelf

set_option maxRecDepth 100000 in
set_option maxHeartbeats 1000000 in
theorem pick_any (x : Int) (n : Nat) (h1 : 1 ≤ n) (h2 : n ≤ 5000) (w : World) : Calls Tryz.prog 35 #[.int .i64 x, .int .i64 n] w fun e w' => ∃ r : Nat, r < n ∧ e = .returned (.int .i64 (r : Nat)) ∧ w' = w := by
  have t1 := Int.tmod_lt_of_pos x (show (0 : Int) < n by omega)
  have t2 : -(n : Int) < x.tmod n := by
    have := Int.lt_tmod_of_pos x (show (0 : Int) < n by omega)
    omega
  have hn0 : ¬ (n : Int) = 0 := by omega
  generalize hm : x.tmod n = m at *
  by_cases h3 : m < 0
  · obtain ⟨r, hr⟩ : ∃ r : Nat, m + n = r := ⟨(m + n).toNat, by omega⟩
    have hr' : Hid (m + n = r) := hr
    clear hr
    go_enter Tryz.func35, Tryz.ntmps35
    go_wp2_with fail
    go_ret
    exact ⟨r, by have := hr'.out; omega, by rw [← hr'.out]; rfl, rfl⟩
  · obtain ⟨r, hr⟩ : ∃ r : Nat, m = r := ⟨m.toNat, by omega⟩
    have hr' : Hid (m = r) := hr
    clear hr
    go_enter Tryz.func35, Tryz.ntmps35
    go_wp2_with fail
    go_ret
    exact ⟨r, by have := hr'.out; omega, by rw [← hr'.out]; rfl, rfl⟩

set_option maxRecDepth 100000 in
set_option maxHeartbeats 1000000 in
theorem joins_no (v : Value) (l : List It) (hl : l.length ≤ 9223372036854775807) (x y z t : Int) (w : World) (hS : ItsAt w v l) (htb : Hy.Tab w) (h : 400 < l.length ∨ ckL l ≠ 0 ∨ lpB l = true) :
    Calls Tryz.prog 7 #[v, .int .i64 x, .int .i64 y, .int .i64 z, .int .i64 t] w fun e w' => e = .returned (.bool true) ∧ Below w.heap.size w w' := by
  have hk := known_any w htb
  have hc : Hid (∀ W, Below w.heap.size w W → Calls Tryz.prog 22 #[v] W fun e w' => e = .returned (.int .i64 (ckL l)) ∧ Below w.heap.size w w') := fun W hb => on_below hb (icheck_any v l W (its_stay hS hb))
  have hp : Hid (∀ W, Below w.heap.size w W → Calls Tryz.prog 26 #[v] W fun e w' => e = .returned (.bool (lpB l)) ∧ Below w.heap.size w w') := fun W hb => on_below hb (leaps_any v l hl W (its_stay hS hb))
  obtain ⟨a, cap, rfl, -⟩ := hS.ex
  clear hS htb
  by_cases h4 : 400 < l.length
  · have h4' : (400 : Int) < l.length := by omega
    clear h
    go_enter Tryz.func7, Tryz.ntmps7
    go_wp2_with (go_at_call 5; refine hk.mono ?_; rintro e w2 ⟨rfl, hb2⟩)
    go_ret
    exact ⟨rfl, hb2⟩
  · have h4' : ¬ (400 : Int) < l.length := by omega
    by_cases hck : ckL l = 0
    · have hlp : lpB l = true := by
        rcases h with h | h | h
        · exact absurd h h4
        · exact absurd hck h
        · exact h
      rw [hck] at hc
      rw [hlp] at hp
      clear h hck hlp
      go_enter Tryz.func7, Tryz.ntmps7
      go_wp2_with (first | (go_at_call 5; refine hk.mono ?_; rintro e w2 ⟨rfl, hb2⟩; replace hb2 : Hid _ := hb2) | (go_at_call 22; refine (hc.out _ hb2.out).mono ?_; rintro e w3 ⟨rfl, hb3⟩; replace hb3 : Hid _ := hb3) | (go_at_call 26; refine (hp.out _ hb3.out).mono ?_; rintro e w4 ⟨rfl, hb4⟩; replace hb4 : Hid _ := hb4))
      go_ret
      exact ⟨rfl, hb4.out⟩
    · have hck' : (ckL l != 0) = true := by simpa using hck
      clear h
      generalize ckL l = n at *
      go_enter Tryz.func7, Tryz.ntmps7
      go_wp2_with (first | (go_at_call 5; refine hk.mono ?_; rintro e w2 ⟨rfl, hb2⟩; replace hb2 : Hid _ := hb2) | (go_at_call 22; refine (hc.out _ hb2.out).mono ?_; rintro e w3 ⟨rfl, hb3⟩; replace hb3 : Hid _ := hb3))
      go_ret
      exact ⟨rfl, hb3.out⟩
end Go.Proofs.YthcphnifnfnceaaGreatDoor

namespace Go.Proofs.YthcphnifnfnceaaGreatDoor
open Go.RowKit Go.Shelf

set_option maxRecDepth 100000 in
set_option maxHeartbeats 4000000 in
theorem joins_ok (v : Value) (l : List It) (hl : l.length ≤ 400) (x y z t : Int) (w : World) (hS : ItsAt w v l) (htb : Hy.Tab w) (hck : ckL l = 0) (hlp : lpB l = false) :
    Calls Tryz.prog 7 #[v, .int .i64 x, .int .i64 y, .int .i64 z, .int .i64 t] w fun e w' => e = .returned (.bool true) ∧ Below w.heap.size w w' := by
  have hk := known_any w htb
  have hc : Hid (∀ W, Below w.heap.size w W → Calls Tryz.prog 22 #[v] W fun e w' => e = .returned (.int .i64 0) ∧ Below w.heap.size w w') := fun W hb => by
    have := icheck_any v l W (its_stay hS hb)
    rw [hck] at this
    exact on_below hb this
  have hp : Hid (∀ W, Below w.heap.size w W → Calls Tryz.prog 26 #[v] W fun e w' => e = .returned (.bool false) ∧ Below w.heap.size w w') := fun W hb => by
    have := leaps_any v l (by omega) W (its_stay hS hb)
    rw [hlp] at this
    exact on_below hb this
  have hw : Hid (∀ W (A E : Nat) (x : Int), Below w.heap.size w W → A ≤ E → E ≤ l.length → 0 ≤ x → x ≤ 4095 → Calls Tryz.prog 18 #[v, .int .i64 A, .int .i64 E, .int .i64 x] W fun e w' => e = .returned (.tuple #[.int .i64 (ntV l A E 0), .int .i64 0]) ∧ Below w.heap.size w w') := fun W A E x hb h1 h2 h3 h4 => by
    have := iwidth_any v l A E x W (its_stay hS hb)
    obtain ⟨e1, e2⟩ := wi_ok hck h1 h2 h3 h4
    rw [e1, e2, nt_shift hlp h2 h1] at this
    exact on_below hb this
  have hj : Hid (∀ A E C : Nat, A < E → E < C → C ≤ l.length → (itAt l (E - 1)).k ≠ 2 → (itAt l E).k ≠ 2 → ntV l A E 0 - pnI l E + ntV l E C 0 = ntV l A C 0) := fun A E C h1 h2 h3 h4 h5 => nt_join hlp h3 h1 h2 h4 h5
  have hr : Hid (∀ A E : Nat, A ≤ E → E ≤ l.length → 0 ≤ ntV l A E 0 ∧ ntV l A E 0 ≤ 300000000) := fun A E h1 h2 => by
    have h3 := shN_le l A (E - A)
    have h4 := at_rng hck (a := A) (x := 0) (by omega) (shN l A (E - A)) (by omega)
    have h5 := pn_rng hck E
    unfold ntV
    omega
  have hpn : Hid (∀ E : Nat, E < l.length → pnI l E = if (itAt l E).k = 3 then (itAt l E).w else 0) := fun E h => pn_is h
  have hit : Hid (∀ W i, Below w.heap.size w W → i < l.length → ∃ g o, (∃ n c, v = .slice (some ⟨g, o, none⟩) n c) ∧ W.cell? ⟨g, o + i * 8, none⟩ = some (.int .i64 (itAt l i).k) ∧ W.cell? ⟨g, o + i * 8 + 3, none⟩ = some (.int .i64 (itAt l i).w)) := fun W i hb hi => by
    obtain ⟨a, cap, rfl, -⟩ := hS.ex
    obtain ⟨g, o, rfl, _, h⟩ := its_at hS hi
    have := h W hb
    rw [itAt_is hi]
    exact ⟨g, o, ⟨_, _, rfl⟩, this.c0, this.c3⟩
  have hwb : Hid (∀ E : Nat, E < l.length → 0 ≤ (itAt l E).w ∧ (itAt l E).w ≤ 524288) := fun E h => by
    have := ck_at hck h
    unfold okP at this
    rw [itAt_is h]
    exact this.2.2.2.1
  obtain ⟨a, cap, rfl, -⟩ := hS.ex
  have h4' : ¬ (400 : Int) < l.length := by omega
  clear hS htb hck hlp
  obtain ⟨n, hn⟩ : ∃ n, l.length = n := ⟨_, rfl⟩
  rw [hn] at hl hc hp hw hj hr hpn hit hwb h4' ⊢
  go_enter Tryz.func7, Tryz.ntmps7
  go_wp2_with fail
  refine hk.mono ?_
  rintro e w2 ⟨rfl, hb2⟩
  clear hk
  go_wp2_with (first | (go_at_call 22; refine (hc.out _ hb2).mono ?_; clear hb2; rintro e w3 ⟨rfl, hb2⟩) | (go_at_call 26; refine (hp.out _ hb2).mono ?_; clear hb2; rintro e w3 ⟨rfl, hb2⟩) | fail)
  clear hc hp
  have e1 : ((n + 1 : Nat) : Int) = (n : Int) + 1 := by omega
  have hp1 := pick_any x (n + 1) (by omega) (by omega) w3
  rw [e1] at hp1
  refine hp1.mono ?_
  rintro e w' ⟨A, hA, rfl, hww⟩
  subst w'
  clear hp1 e1
  have e2 : ((n + 1 - A : Nat) : Int) = (n : Int) + 1 - A := by omega
  have hp2 := pick_any y (n + 1 - A) (by omega) (by omega) w3
  rw [e2] at hp2
  go_wp2_with fail
  refine hp2.mono ?_
  rintro e w' ⟨r2, hA2, rfl, hww⟩
  subst w'
  clear hp2 e2
  have e3 : ((n + 1 - (A + r2) : Nat) : Int) = (n : Int) + 1 - (A + r2) := by omega
  have hp3 := pick_any z (n + 1 - (A + r2)) (by omega) (by omega) w3
  rw [e3] at hp3
  go_wp2_with fail
  refine hp3.mono ?_
  rintro e w' ⟨r3, hA3, rfl, hww⟩
  subst w'
  clear hp3 e3
  have hp4 := pick_any t 4096 (by omega) (by omega) w3
  go_wp2_with fail
  refine hp4.mono ?_
  rintro e w' ⟨r4, hA4, rfl, hww⟩
  subst w'
  clear hp4
  have s1 : ((A + r2 : Nat) : Int) = (A : Int) + r2 := by omega
  have s2 : ((A + r2 + r3 : Nat) : Int) = (A : Int) + r2 + r3 := by omega
  have q1 := hw.out w3 A (A + r2 + r3) 0 hb2 (by omega) (by omega) (by omega) (by omega)
  have q2 : Hid (∀ W, Below w.heap.size w W → Calls Tryz.prog 18 #[.slice a n cap, .int .i64 A, .int .i64 ((A + r2 + r3 : Nat) : Int), .int .i64 (r4 : Nat)] W fun e w' => e = .returned (.tuple #[.int .i64 (ntV l A (A + r2 + r3) 0), .int .i64 0]) ∧ Below w.heap.size w w') := fun W hb => hw.out W A (A + r2 + r3) r4 hb (by omega) (by omega) (by omega) (by omega)
  have q3 : Hid (∀ W, Below w.heap.size w W → Calls Tryz.prog 18 #[.slice a n cap, .int .i64 A, .int .i64 ((A + r2 : Nat) : Int), .int .i64 0] W fun e w' => e = .returned (.tuple #[.int .i64 (ntV l A (A + r2) 0), .int .i64 0]) ∧ Below w.heap.size w w') := fun W hb => hw.out W A (A + r2) 0 hb (by omega) (by omega) (by omega) (by omega)
  have q4 : Hid (∀ W, Below w.heap.size w W → Calls Tryz.prog 18 #[.slice a n cap, .int .i64 ((A + r2 : Nat) : Int), .int .i64 ((A + r2 + r3 : Nat) : Int), .int .i64 0] W fun e w' => e = .returned (.tuple #[.int .i64 (ntV l (A + r2) (A + r2 + r3) 0), .int .i64 0]) ∧ Below w.heap.size w w') := fun W hb => hw.out W (A + r2) (A + r2 + r3) 0 hb (by omega) (by omega) (by omega) (by omega)
  rw [s1, s2] at q4
  rw [s2] at q1 q2
  rw [s1] at q3
  have hj' := fun h1 h2 => hj.out A (A + r2) (A + r2 + r3) h1 h2 (by omega)
  have hr1 := hr.out A (A + r2) (by omega) (by omega)
  have hr2 := hr.out (A + r2) (A + r2 + r3) (by omega) (by omega)
  have hr3 := hr.out A (A + r2 + r3) (by omega) (by omega)
  have hj2 : Hid (A < A + r2 → A + r2 < A + r2 + r3 → (itAt l (A + r2 - 1)).k ≠ 2 → (itAt l (A + r2)).k ≠ 2 → ntV l A (A + r2) 0 - pnI l (A + r2) + ntV l (A + r2) (A + r2 + r3) 0 = ntV l A (A + r2 + r3) 0) := hj'
  clear hw hj hr hj' s1 s2
  generalize ntV l A (A + r2) 0 = V1 at *
  generalize ntV l (A + r2) (A + r2 + r3) 0 = V2 at *
  generalize ntV l A (A + r2 + r3) 0 = V3 at *
  obtain ⟨hr10, hr11⟩ := hr1
  obtain ⟨hr20, hr21⟩ := hr2
  obtain ⟨hr30, hr31⟩ := hr3
  go_wp2_with fail
  refine q1.mono ?_
  clear hb2
  rintro e w4 ⟨rfl, hb2⟩
  clear q1
  go_wp2_with fail
  refine (q2.out _ hb2).mono ?_
  clear hb2
  rintro e w5 ⟨rfl, hb2⟩
  clear q2
  by_cases d1 : r2 = 0
  · subst d1
    clear q3 q4 hj2 hpn hit hwb
    go_wp2_with fail
    go_ret
    exact ⟨rfl, hb2⟩
  by_cases d2 : r3 = 0
  · subst d2
    have hAB : (A : Int) < (A : Int) + r2 := by omega
    clear q3 q4 hj2 hpn hit hwb
    go_wp2_with fail
    go_ret
    exact ⟨rfl, hb2⟩
  have hAB : (A : Int) < (A : Int) + r2 := by omega
  have hBC : (A : Int) + r2 < (A : Int) + r2 + r3 := by omega
  have hBk : (A : Int) + r2 < n := by omega
  have z1 : ((A : Int) + r2 == (A : Int)) = false := beq_eq_false_iff_ne.2 (by omega)
  have z2 : ((A : Int) + r2 == (A : Int) + r2 + r3) = false := beq_eq_false_iff_ne.2 (by omega)
  obtain ⟨g, o, ⟨_, _, hg⟩, c1, -⟩ := hit.out w5 (A + r2 - 1) hb2 (by omega)
  cases hg
  obtain ⟨g', o', ⟨_, _, hg⟩, c2, -⟩ := hit.out w5 (A + r2) hb2 (by omega)
  cases hg
  have hwb' := hwb.out (A + r2) (by omega)
  have hpn' := hpn.out (A + r2) (by omega)
  have hpn2 : Hid (pnI l (A + r2) = if (itAt l (A + r2)).k = 3 then (itAt l (A + r2)).w else 0) := hpn'
  have c3 : Hid (∀ W, Below w.heap.size w W → W.cell? ⟨g, o + (A + r2) * 8, none⟩ = some (.int .i64 (itAt l (A + r2)).k) ∧ W.cell? ⟨g, o + (A + r2) * 8 + 3, none⟩ = some (.int .i64 (itAt l (A + r2)).w)) := fun W hb => by
    obtain ⟨g', o', ⟨_, _, hg⟩, c2, c3⟩ := hit.out W (A + r2) hb (by omega)
    cases hg
    exact ⟨c2, c3⟩
  have hj3 := hj2.out (by omega) (by omega)
  have hj4 : Hid ((itAt l (A + r2 - 1)).k ≠ 2 → (itAt l (A + r2)).k ≠ 2 → V1 - pnI l (A + r2) + V2 = V3) := hj3
  clear hj2 hj3 hwb hpn hpn' hit
  generalize pnI l (A + r2) = pw at *
  generalize (itAt l (A + r2)).w = wb at *
  generalize (itAt l (A + r2)).k = kb at *
  generalize (itAt l (A + r2 - 1)).k = ka at *
  by_cases d3 : ka = 2
  · subst d3
    clear q3 q4 hj4 hpn2 c3
    go_wp2_with fail
    go_ret
    exact ⟨rfl, hb2⟩
  have d3' : (ka == 2) = false := by simpa using d3
  by_cases d4 : kb = 2
  · subst d4
    clear q3 q4 hj4 hpn2 c3
    go_wp2_with fail
    go_ret
    exact ⟨rfl, hb2⟩
  have d4' : (kb == 2) = false := by simpa using d4
  have hj5 := hj4.out d3 d4
  clear hj4
  by_cases d5 : kb = 3
  · have hp5 := hpn2.out
    rw [if_pos d5] at hp5
    subst d5
    subst hp5
    have hsum : (V1 - pw + V2 == V3) = true := beq_iff_eq.2 hj5
    clear hj5 hpn2
    go_wp2_with fail
    refine (q3.out _ hb2).mono ?_
    clear hb2
    rintro e w6 ⟨rfl, hb2⟩
    go_wp2_with fail
    refine (q4.out _ hb2).mono ?_
    clear hb2
    rintro e w7 ⟨rfl, hb2⟩
    obtain ⟨c4, c5⟩ := c3.out _ hb2
    clear q3 q4 c3 c1 c2
    go_wp2_with fail
    go_ret
    exact ⟨rfl, hb2⟩
  · have d5' : (kb == 3) = false := by simpa using d5
    have hp5 := hpn2.out
    rw [if_neg d5] at hp5
    subst hp5
    have hsum : (V1 + V2 == V3) = true := beq_iff_eq.2 (by omega)
    clear hj5 hpn2 d5
    go_wp2_with fail
    refine (q3.out _ hb2).mono ?_
    clear hb2
    rintro e w6 ⟨rfl, hb2⟩
    go_wp2_with fail
    refine (q4.out _ hb2).mono ?_
    clear hb2
    rintro e w7 ⟨rfl, hb2⟩
    obtain ⟨c4, c5⟩ := c3.out _ hb2
    clear q3 q4 c3 c1 c2
    go_wp2_with fail
    go_ret
    exact ⟨rfl, hb2⟩
theorem joins_any (v : Value) (l : List It) (hl : l.length ≤ 9223372036854775807) (x y z t : Int) (w : World) (hS : ItsAt w v l) (htb : Hy.Tab w) :
    Calls Tryz.prog 7 #[v, .int .i64 x, .int .i64 y, .int .i64 z, .int .i64 t] w fun e w' => e = .returned (.bool true) ∧ Below w.heap.size w w' := by
  by_cases h1 : 400 < l.length
  · exact joins_no v l hl x y z t w hS htb (.inl h1)
  by_cases h2 : ckL l = 0
  · cases h3 : lpB l
    · exact joins_ok v l (by omega) x y z t w hS htb h2 h3
    · exact joins_no v l hl x y z t w hS htb (.inr (.inr h3))
  · exact joins_no v l hl x y z t w hS htb (.inr (.inl h2))
end Go.Proofs.YthcphnifnfnceaaGreatDoor
