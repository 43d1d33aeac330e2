/-
  What is proved here: what the document's Ends, Legal, Begin, Start and Trim answer of any items.
  What is proved here: what the document's After of no stops, Natural, Width, Gives and Give answer of any items.
  What is proved here: what the document's Line and one answer.
-/
import Derived.Test.YtnnlfeimebiboaaGreatDoorG15
import Derived.Test.YtnnlfeimebiboaaGreatDoorG5
import Derived.Laws.ResultCell
import Derived.Test.YtnnlfeimebiboaaGreatDoorG13
namespace Go.Proofs.YtnnlfeimebiboaaGreatDoor
open Go.RowKit Go.Shelf

theorem its_cells {W : World} {a : Option Addr} {n cap : Nat} {l : List It} (h : ItsAt W (.slice a n cap) l) {i : Nat} (hi : i < l.length) :
    ∃ b o, a = some ⟨b, o, none⟩ ∧ W.cell? ⟨b, o + i * 8, none⟩ = some (.int .i64 (itAt l i).k) ∧ W.cell? ⟨b, o + i * 8 + 3, none⟩ = some (.int .i64 (itAt l i).w) ∧ W.cell? ⟨b, o + i * 8 + 4, none⟩ = some (.int .i64 (itAt l i).s) ∧ W.cell? ⟨b, o + i * 8 + 5, none⟩ = some (.int .i64 (itAt l i).h) := by
  obtain ⟨b, o, rfl, hb, hit⟩ := its_at h hi
  have := hit W (Below.refl _ _)
  rw [itAt_is hi]
  exact ⟨b, o, rfl, this.c0, this.c3, this.c4, this.c5⟩
set_option maxRecDepth 100000 in
set_option maxHeartbeats 2000000 in
theorem rends_any (v : Value) (l : List It) (i : Nat) (hi : i ≤ l.length) (hl : l.length ≤ 8192) (w : World) (hS : ItsAt w v l) :
    Calls Tryz.prog 57 #[v, .int .i64 i] w fun e w' => e = .returned (.bool (enB l i)) ∧ w' = w := by
  obtain ⟨a, cap, rfl, -⟩ := hS.ex
  have h8 : (i : Int) ≤ 8192 := by omega
  unfold enB
  by_cases hil : i = l.length
  · rw [decide_eq_true (.inl hil)]
    have hi' : ((i : Int) == (l.length : Int)) = true := by rw [beq_iff_eq]; omega
    clear hS hil
    go_enter Tryz.func57, Tryz.ntmps57
    go_wp2_with fail
    go_ret
    exact ⟨rfl, rfl⟩
  · have hlt : i < l.length := by omega
    have hlt' : (i : Int) < l.length := by omega
    have hi' : ((i : Int) == (l.length : Int)) = false := by rw [beq_eq_false_iff_ne]; omega
    obtain ⟨bb, oo, rfl, c0, -⟩ := its_cells hS hlt
    have hk1 : Hid (0 < i → w.cell? ⟨bb, oo + (i - 1) * 8, none⟩ = some (.int .i64 (itAt l (i - 1)).k)) := fun h => by
      obtain ⟨b2, o2, e2, c1, -⟩ := its_cells hS (i := i - 1) (by omega)
      cases e2
      exact c1
    clear hS
    generalize (itAt l i).k = kx at *
    generalize (itAt l (i - 1)).k = ky at *
    by_cases h3 : kx = 3
    · rw [decide_eq_true (.inr (.inl h3))]
      subst h3
      clear hk1
      go_enter Tryz.func57, Tryz.ntmps57
      go_wp2_with fail
      go_ret
      exact ⟨rfl, rfl⟩
    · have q3 : (kx == 3) = false := by simpa using h3
      by_cases h2 : kx = 2
      · subst h2
        by_cases hz : i = 0
        · rw [decide_eq_false (by omega)]
          have hz' : ¬ (0 : Int) < (i : Int) := by omega
          clear hk1 hz h3
          go_enter Tryz.func57, Tryz.ntmps57
          go_wp2_with fail
          go_ret
          exact ⟨rfl, rfl⟩
        · have hz' : (0 : Int) < (i : Int) := by omega
          have h1i : (1 : Int) ≤ (i : Int) := by omega
          have hjl : (i : Int) - 1 < l.length := by omega
          have c1 := hk1.out (by omega)
          clear hk1
          by_cases hy : ky = 2
          · rw [decide_eq_false (by omega)]
            subst hy
            clear hz h3
            go_enter Tryz.func57, Tryz.ntmps57
            go_wp2_with fail
            go_ret
            exact ⟨rfl, rfl⟩
          · rw [decide_eq_true (by omega)]
            have qy : (ky == 2) = false := by simpa using hy
            have qy' : (ky != 2) = true := by simpa using hy
            clear hz h3
            go_enter Tryz.func57, Tryz.ntmps57
            go_wp2_with fail
            go_ret
            exact ⟨rfl, rfl⟩
      · have q2 : (kx == 2) = false := by simpa using h2
        rw [decide_eq_false (by omega)]
        clear hk1 h3 h2
        go_enter Tryz.func57, Tryz.ntmps57
        go_wp2_with fail
        go_ret
        exact ⟨rfl, rfl⟩

set_option maxRecDepth 100000 in
set_option maxHeartbeats 2000000 in
theorem rbegin_any (v : Value) (l : List It) (i : Nat) (hi : i ≤ l.length) (hl : l.length ≤ 8192) (w : World) (hS : ItsAt w v l) :
    Calls Tryz.prog 44 #[v, .int .i64 i] w fun e w' => e = .returned (.int .i64 (bgN l i)) ∧ w' = w := by
  obtain ⟨a, cap, rfl, -⟩ := hS.ex
  have h8 : (l.length : Int) ≤ 8192 := by omega
  have hk : Hid (∀ i, i < l.length → ∃ b o, a = some ⟨b, o, none⟩ ∧ w.cell? ⟨b, o + i * 8, none⟩ = some (.int .i64 (itAt l i).k)) := fun i hlt => by
    obtain ⟨b, o, e, h, -⟩ := its_cells hS hlt
    exact ⟨b, o, e, h⟩
  clear hS
  by_cases hp : i < l.length ∧ (itAt l i).k = 3
  · have hres : Hid (bgN l i = sk l (i + 1)) := by show bgN l i = sk l (i + 1); unfold bgN sk; rw [if_pos hp]
    obtain ⟨hlt, hk3⟩ := hp
    have hlt' : (i : Int) < l.length := by omega
    obtain ⟨bb, oo, rfl, c0⟩ := hk.out i hlt
    rw [hk3] at c0
    clear hk3
    generalize bgN l i = R at *
    go_enter Tryz.func44, Tryz.ntmps44
    go_wp2_with fail
    clear c0
    go_loopw [1] (fun p wr => ∃ k : Nat, k ≤ l.length ∧ p = .int .i64 k ∧ wr = w ∧ Hid (R = sk l k)) (fun p _ => l.length - (intOf p).toNat)
    case atStart => exact ⟨i + 1, by omega, by first | rfl | simp, rfl, hres⟩
    case round =>
      obtain ⟨k, hk1, rfl, rfl, hr⟩ := hrel
      by_cases hkl : k < l.length
      · have hkl' : (k : Int) < l.length := by omega
        obtain ⟨b2, o2, e2, c1⟩ := hk.out k hkl
        cases e2
        by_cases h2 : (itAt l k).k = 2
        · have hr2 : Hid (R = sk l (k + 1)) := hr.out.trans (sk_go hkl h2)
          rw [h2] at c1
          clear hr hres h2
          go_wp2_with fail
          go_roundw
          case rel => exact ⟨k + 1, by omega, by simp, by first | rfl | trivial, hr2⟩
          case measure => simp [intOf]; omega
        · have e := hr.out.trans (sk_no (fun h => h2 h.2))
          subst e
          have q2 : ((itAt l R).k == 2) = false := by simpa using h2
          generalize (itAt l R).k = kx at *
          clear hr hres h2
          go_wp2_with fail
          go_ret
          exact ⟨rfl, rfl⟩
      · have e := hr.out.trans (sk_no (fun h => hkl h.1))
        subst e
        have hkl' : ¬ (R : Int) < l.length := by omega
        clear hr hres
        go_wp2_with fail
        go_ret
        exact ⟨rfl, rfl⟩
  · have hres : Hid (bgN l i = sk l i) := by show bgN l i = sk l i; unfold bgN sk; rw [if_neg hp]
    by_cases hlt : i < l.length
    · have hlt' : (i : Int) < l.length := by omega
      obtain ⟨bb, oo, rfl, c0⟩ := hk.out i hlt
      have q3 : ((itAt l i).k == 3) = false := by rw [beq_eq_false_iff_ne]; exact fun h => hp ⟨hlt, h⟩
      clear hp
      generalize bgN l i = R at *
      obtain ⟨kz, hkz⟩ : ∃ kz, (itAt l i).k = kz := ⟨_, rfl⟩
      rw [hkz] at c0 q3
      clear hkz
      go_enter Tryz.func44, Tryz.ntmps44
      go_wp2_with fail
      clear c0 q3
      go_loopw [1] (fun p wr => ∃ k : Nat, k ≤ l.length ∧ p = .int .i64 k ∧ wr = w ∧ Hid (R = sk l k)) (fun p _ => l.length - (intOf p).toNat)
      case atStart => exact ⟨i, by omega, by first | rfl | simp, rfl, hres⟩
      case round =>
        obtain ⟨k, hk1, rfl, rfl, hr⟩ := hrel
        by_cases hkl : k < l.length
        · have hkl' : (k : Int) < l.length := by omega
          obtain ⟨b2, o2, e2, c1⟩ := hk.out k hkl
          cases e2
          by_cases h2 : (itAt l k).k = 2
          · have hr2 : Hid (R = sk l (k + 1)) := hr.out.trans (sk_go hkl h2)
            rw [h2] at c1
            clear hr hres h2
            go_wp2_with fail
            go_roundw
            case rel => exact ⟨k + 1, by omega, by simp, by first | rfl | trivial, hr2⟩
            case measure => simp [intOf]; omega
          · have e := hr.out.trans (sk_no (fun h => h2 h.2))
            subst e
            have q2 : ((itAt l R).k == 2) = false := by simpa using h2
            generalize (itAt l R).k = kx at *
            clear hr hres h2
            go_wp2_with fail
            go_ret
            exact ⟨rfl, rfl⟩
        · have e := hr.out.trans (sk_no (fun h => hkl h.1))
          subst e
          have hkl' : ¬ (R : Int) < l.length := by omega
          clear hr hres
          go_wp2_with fail
          go_ret
          exact ⟨rfl, rfl⟩
    · have hlt' : ¬ (i : Int) < l.length := by omega
      have e : bgN l i = i := hres.out.trans (sk_no (fun h => hlt h.1))
      rw [e]
      clear hp hres e hk
      go_enter Tryz.func44, Tryz.ntmps44
      go_wp2_with fail
      go_loopw [1] (fun p wr => p = .int .i64 i ∧ wr = w) (fun _ _ => 0)
      case atStart => exact ⟨rfl, rfl⟩
      case round =>
        obtain ⟨rfl, rfl⟩ := hrel
        go_wp2_with fail
        go_ret
        exact ⟨rfl, rfl⟩

set_option maxRecDepth 100000 in
set_option maxHeartbeats 2000000 in
theorem rtrim_any (v : Value) (l : List It) (A E : Nat) (hA : A ≤ E) (hE : E ≤ l.length) (hl : l.length ≤ 8192) (w : World) (hS : ItsAt w v l) :
    Calls Tryz.prog 96 #[v, .int .i64 A, .int .i64 E] w fun e w' => e = .returned (.int .i64 ((A + shN l A (E - A) : Nat) : Int)) ∧ w' = w := by
  obtain ⟨a, cap, rfl, -⟩ := hS.ex
  have h8 : (l.length : Int) ≤ 8192 := by omega
  have hk : Hid (∀ i, i < l.length → ∃ b o, a = some ⟨b, o, none⟩ ∧ w.cell? ⟨b, o + i * 8, none⟩ = some (.int .i64 (itAt l i).k)) := fun i hlt => by
    obtain ⟨b, o, e, h, -⟩ := its_cells hS hlt
    exact ⟨b, o, e, h⟩
  clear hS
  obtain ⟨R, hR⟩ : ∃ R, A + shN l A (E - A) = R := ⟨_, rfl⟩
  have hres : Hid (A + shN l A (E - A) = R) := hR
  rw [hR]
  clear hR
  go_enter Tryz.func96, Tryz.ntmps96
  go_wp2_with fail
  go_loopw [2] (fun p wr => ∃ k : Nat, A ≤ k ∧ k ≤ E ∧ p = .int .i64 k ∧ wr = w ∧ Hid (A + shN l A (k - A) = R)) (fun p _ => (intOf p).toNat)
  case atStart => exact ⟨E, by omega, by omega, rfl, rfl, hres⟩
  case round =>
    obtain ⟨k, hk0, hk1, rfl, rfl, hr⟩ := hrel
    by_cases hkl : A < k
    · have hkl' : (A : Int) < k := by omega
      have h1k : (1 : Int) ≤ k := by omega
      have hkn : (k : Int) - 1 < l.length := by omega
      obtain ⟨b2, o2, rfl, c1⟩ := hk.out (k - 1) (by omega)
      have hsh : Hid (shN l A (k - A) = if (itAt l (k - 1)).k = 2 then shN l A (k - 1 - A) else k - A) := by
        obtain ⟨m, rfl⟩ : ∃ m, k = A + (m + 1) := ⟨k - A - 1, by omega⟩
        show _ = _
        rw [show A + (m + 1) - A = m + 1 by omega, show A + (m + 1) - 1 = A + m by omega, show A + m - A = m by omega]
        rfl
      by_cases h2 : (itAt l (k - 1)).k = 2
      · have hr2 : Hid (A + shN l A (k - 1 - A) = R) := by have := hsh.out; rw [if_pos h2] at this; have h := hr.out; rw [this] at h; exact h
        rw [h2] at c1
        clear hr hres h2 hsh
        go_wp2_with fail
        go_roundw
        case rel => exact ⟨k - 1, by omega, by omega, by first | rfl | (congr 1; omega) | (simp; omega), by first | rfl | trivial, hr2⟩
        case measure => simp [intOf]; omega
      · have e : R = k := by have := hsh.out; rw [if_neg h2] at this; have h := hr.out; rw [this] at h; omega
        subst e
        have q2 : ((itAt l (R - 1)).k == 2) = false := by simpa using h2
        generalize (itAt l (R - 1)).k = kx at *
        clear hr hres h2 hsh
        go_wp2_with fail
        go_ret
        exact ⟨rfl, rfl⟩
    · have e : R = k := by
        have h := hr.out
        rw [show k - A = 0 by omega] at h
        have h0 : shN l A 0 = 0 := rfl
        rw [h0] at h
        omega
      subst e
      have hkl' : ¬ (A : Int) < R := by omega
      clear hr hres
      go_wp2_with fail
      go_ret
      exact ⟨rfl, rfl⟩
end Go.Proofs.YtnnlfeimebiboaaGreatDoor

namespace Go.Proofs.YtnnlfeimebiboaaGreatDoor
open Go.RowKit Go.Shelf

theorem info131 (x y : Value) : (Tryz.prog.info? 151).map (·.size) = some (#[x, y] : Array Value).size := by show _ = some 2; kernel_rfl
set_option maxRecDepth 100000 in
set_option maxHeartbeats 4000000 in
theorem after_any (x : Int) (h0 : 0 ≤ x) (h1 : x ≤ 1000000000000) (w : World) :
    Calls Tryz.prog 97 #[.slice none 0 0, .int .i64 x] w fun e w' => e = .returned (.agg #[.int .i64 (stI x), .int .i64 0]) ∧ Below w.heap.size w w' := by
  have hd : x.tdiv 48 = x / 48 := Int.tdiv_eq_ediv_of_nonneg h0
  have hB2 : Hid (Below w.heap.size w (w.alloc (.cells #[.int .i64 ((x / 48 + 1) * 48), .int .i64 0] 151))) := (Below.refl w.heap.size w).alloc (Nat.le_refl _) _
  unfold stI
  go_enter Tryz.func97, Tryz.ntmps97
  go_wp2_with fail
  go_loopw [5] (fun i wr => i = .int .i64 0 ∧ wr = w.alloc (.cells #[.int .i64 0, .int .i64 0] 151)) (fun _ _ => 0)
  case atStart => exact ⟨rfl, rfl⟩
  case round =>
    obtain ⟨rfl, rfl⟩ := hrel
    go_wp2_with fail
    refine bodyPost_ret (results_cell_row rfl _ _ w.heap.size 151 _ (0, 0) _ rfl (World.alloc_heap_new w _) Tryz.underlying151 rfl (info131 _ _)) rfl ⟨rfl, hB2.out⟩

set_option maxRecDepth 100000 in
set_option maxHeartbeats 4000000 in
theorem rnatural2_any (v : Value) (l : List It) (A E : Nat) (z : Int) (hck : ckL l = 0) (hA : A ≤ E) (hE : E ≤ l.length) (hz0 : 0 ≤ z) (hz1 : z ≤ 4095) (w : World) (hS : ItsAt w v l) :
    Calls Tryz.prog 73 #[v, .int .i64 A, .int .i64 E, .int .i64 z] w fun e w' => e = .returned (.int .i64 (ntV l A E z)) ∧ Below w.heap.size w w' := by
  have hl := ck_len hck
  obtain ⟨m, hm⟩ : ∃ m, shN l A (E - A) = m := ⟨_, rfl⟩
  have hmle : m ≤ E - A := by rw [← hm]; exact shN_le _ _ _
  have htr : Hid (∀ W, Below w.heap.size w W → Calls Tryz.prog 96 #[v, .int .i64 A, .int .i64 E] W fun e w' => e = .returned (.int .i64 ((A + m : Nat) : Int)) ∧ w' = W) := fun W hb => by
    have := rtrim_any v l A E hA hE hl W (hS.below hb (Nat.le_refl _))
    rw [hm] at this
    exact this
  have hat : Hid (∀ i, i < l.length → ∀ W, Below w.heap.size w W → ∃ b o, (∃ n c, v = .slice (some ⟨b, o, none⟩) n c) ∧ W.cell? ⟨b, o + i * 8, none⟩ = some (.int .i64 (itAt l i).k) ∧ W.cell? ⟨b, o + i * 8 + 3, none⟩ = some (.int .i64 (itAt l i).w)) := fun i hi W hb => by
    have hS' := hS.below hb (Nat.le_refl _)
    obtain ⟨a, cap, rfl, -⟩ := hS.ex
    obtain ⟨b, o, rfl, c0, c3, -⟩ := its_cells hS' hi
    exact ⟨b, o, ⟨_, _, rfl⟩, c0, c3⟩
  have hrg : Hid (∀ k, k ≤ m → z ≤ atN l A z k ∧ atN l A z k ≤ z + 524288 * (k : Int)) := fun k hk => at_rng hck hz0 k (by omega)
  have hgo : Hid (∀ k, k < m → okP (itAt l (A + k))) := fun k hk => by
    rw [itAt_is (show A + k < l.length by omega)]
    exact ck_at hck (by omega)
  have hpr := pn_rng hck E
  have hend : Hid (ntV l A E z = atN l A z m + pnI l E - z) := by show _ = _; unfold ntV; rw [hm]
  have hpn : Hid (∀ W', Below w.heap.size w W' → (pnI l E = 0 ∧ (¬ E < l.length ∨ (E < l.length ∧ ∃ b o kx, (∃ n c, v = .slice (some ⟨b, o, none⟩) n c) ∧ W'.cell? ⟨b, o + E * 8, none⟩ = some (.int .i64 kx) ∧ (kx == 3) = false))) ∨ (E < l.length ∧ ∃ b o, (∃ n c, v = .slice (some ⟨b, o, none⟩) n c) ∧ W'.cell? ⟨b, o + E * 8, none⟩ = some (.int .i64 3) ∧ W'.cell? ⟨b, o + E * 8 + 3, none⟩ = some (.int .i64 (pnI l E)))) := fun W' hW => by
    unfold pnI
    by_cases hE : E < l.length
    · obtain ⟨b, o, e, c0, c3⟩ := hat.out E hE W' hW
      by_cases h3 : (itAt l E).k = 3
      · rw [if_pos ⟨hE, h3⟩]
        rw [h3] at c0
        exact .inr ⟨hE, b, o, e, c0, c3⟩
      · rw [if_neg (fun h => h3 h.2)]
        exact .inl ⟨rfl, .inr ⟨hE, b, o, _, e, c0, by simpa using h3⟩⟩
    · rw [if_neg (fun h => hE h.1)]
      exact .inl ⟨rfl, .inl hE⟩
  obtain ⟨a, cap, rfl, -⟩ := hS.ex
  rw [hend.out]
  clear hend hm hck hS
  generalize pnI l E = pw at *
  go_enter Tryz.func73, Tryz.ntmps73
  go_wp2_with fail
  go_loopw [9, 10] (fun p i wr => ∃ k : Nat, k ≤ m ∧ i = .int .i64 ((A + k : Nat) : Int) ∧ p = .int .i64 (atN l A z k) ∧ Below w.heap.size w wr) (fun _ i _ => A + m - (intOf i).toNat)
  case atStart => exact ⟨0, by omega, rfl, rfl, Below.refl _ _⟩
  case round =>
    obtain ⟨k, hk, rfl, rfl, hb2⟩ := hrel
    have htk := htr.out wr hb2
    by_cases hlt : k < m
    · have hlt' : ((A + k : Nat) : Int) < ((A + m : Nat) : Int) := by omega
      have hln : ((A + k : Nat) : Int) < l.length := by omega
      obtain ⟨bb, oo, ⟨_, _, hv⟩, c0, c3⟩ := hat.out (A + k) (by omega) wr hb2
      cases hv
      have hok := hgo.out k hlt
      have hr1 := hrg.out k (by omega)
      have he : Hid (atN l A z (k + 1) = goI (atN l A z k) (itAt l (A + k))) := rfl
      generalize itAt l (A + k) = it at *
      obtain ⟨k0, f0, t0, w0, s0, h0, q0, y0⟩ := it
      unfold okP at hok
      unfold goI at he
      simp only at c0 c3 hok he
      have hk4 : Hid (k0 = 1 ∨ k0 = 2 ∨ k0 = 3 ∨ k0 = 4) := by show _ ∨ _; omega
      have hw0 : 0 ≤ w0 ∧ w0 ≤ 524288 := hok.2.2.2.1
      obtain ⟨p, hp⟩ : ∃ p, atN l A z k = p := ⟨_, rfl⟩
      have hp0 : 0 ≤ p := by omega
      have hp1 : p ≤ 5000000000 := by omega
      rw [hp] at he ⊢
      have hkk : Hid (k ≤ m) := hk
      have hnx : Hid (((A + k : Nat) : Int) + 1 = ((A + (k + 1) : Nat) : Int)) := by show _ = _; omega
      have hAk : ((A + k : Nat) : Int) ≤ 9000 := by omega
      have hms : Hid (∀ q : Nat, q = A + k → A + m - (q + 1) < A + m - q) := fun q hq => by omega
      clear hok hr1 hp hk hat hrg hgo hpn htr
      generalize hnn : A + k = nn at *
      generalize hmm : A + m = mm at *
      rcases hk4.out with rfl | rfl | rfl | rfl
      · go_wp2_with (go_at_call 96; refine htk.mono ?_; rintro e w' ⟨rfl, hww⟩; subst w')
        go_roundw
        case rel => exact ⟨k + 1, by have := hkk.out; omega, by rw [← hnx.out], by rw [he.out]; simp, hb2⟩
        case measure => simp [intOf]; omega
      · go_wp2_with (go_at_call 96; refine htk.mono ?_; rintro e w' ⟨rfl, hww⟩; subst w')
        go_roundw
        case rel => exact ⟨k + 1, by have := hkk.out; omega, by rw [← hnx.out], by rw [he.out]; simp, hb2⟩
        case measure => simp [intOf]; omega
      · go_wp2_with (go_at_call 96; refine htk.mono ?_; rintro e w' ⟨rfl, hww⟩; subst w')
        go_roundw
        case rel => exact ⟨k + 1, by have := hkk.out; omega, by rw [← hnx.out], by rw [he.out]; simp, hb2⟩
        case measure => simp [intOf]; omega
      · have hst := after_any p hp0 (by omega)
        have hfd : ∀ W : World, (Instr.field 151 (.agg #[.int .i64 (stI p), .int .i64 0]) 0).run Tryz.prog W = .ok (.int .i64 (stI p)) W := fun W => by kernel_rfl
        go_wp2_with (first | (go_at_call 96; refine htk.mono ?_; rintro e w' ⟨rfl, hww⟩; subst w') | (go_at_call 97; refine (hst _).mono ?_; rintro e w3 ⟨rfl, hb3⟩))
        go_roundw
        case rel => exact ⟨k + 1, by have := hkk.out; omega, by rw [← hnx.out], by rw [he.out]; simp, hb2.trans (hb3.mono hb2.size)⟩
        case measure => simp [intOf]; omega
    · obtain rfl : k = m := by omega
      have hr1 := hrg.out k (by omega)
      obtain ⟨p, hp⟩ : ∃ p, atN l A z k = p := ⟨_, rfl⟩
      have hp0 : z ≤ p := by omega
      have hp1 : p ≤ 5000000000 := by omega
      rw [hp]
      have hpH : Hid (atN l A z k = p) := hp
      have hge : ¬ ((A + k : Nat) : Int) < ((A + k : Nat) : Int) := by omega
      clear hr1 hp hat hgo hrg htr
      generalize hnn : A + k = nn at *
      rcases hpn.out _ hb2 with ⟨rfl, hn | ⟨hE, bb, oo, kx, ⟨_, _, hv⟩, c0, q3⟩⟩ | ⟨hE, bb, oo, ⟨_, _, hv⟩, c0, c3⟩
      · have hn' : ¬ (E : Int) < l.length := by omega
        clear hpn
        go_wp2_with (go_at_call 96; refine htk.mono ?_; rintro e w' ⟨rfl, hww⟩; subst w')
        go_ret
        exact ⟨by rw [hpH.out]; first | rfl | simp, hb2⟩
      · cases hv
        have hn' : (E : Int) < l.length := by omega
        clear hpn
        go_wp2_with (go_at_call 96; refine htk.mono ?_; rintro e w' ⟨rfl, hww⟩; subst w')
        go_ret
        exact ⟨by rw [hpH.out]; first | rfl | simp, hb2⟩
      · cases hv
        have hn' : (E : Int) < l.length := by omega
        clear hpn
        go_wp2_with (go_at_call 96; refine htk.mono ?_; rintro e w' ⟨rfl, hww⟩; subst w')
        go_ret
        exact ⟨by rw [hpH.out]; first | rfl | simp, hb2⟩
end Go.Proofs.YtnnlfeimebiboaaGreatDoor

namespace Go.Proofs.YtnnlfeimebiboaaGreatDoor
open Go.RowKit Go.Shelf

set_option maxRecDepth 100000 in
set_option maxHeartbeats 4000000 in
theorem rline_any (v : Value) (l : List It) (A b : Nat) (x : Int) (hck : ckL l = 0) (hA : A ≤ b) (hb : b ≤ l.length) (hx : 0 ≤ x ∧ x ≤ 4095) (w : World) (hS : ItsAt w v l) :
    Calls Tryz.prog 58 #[v, .int .i64 A, .int .i64 b, .int .i64 x] w fun e w' => e = .returned (.agg (pcL ⟨A, b, false, hyB l b, ntV l A b x⟩).toArray) ∧ Below w.heap.size w w' := by
  have hB := (Below.refl w.heap.size w).alloc (Nat.le_refl _) (.cells #[.int .i64 0, .int .i64 0, .bool false, .bool false, .int .i64 0] 41)
  have hN := rnatural2_any v l A b x hck hA hb hx.1 hx.2 _ (hS.below hB (Nat.le_refl _))
  obtain ⟨a, cap, rfl, -⟩ := hS.ex
  have h8 := ck_len hck
  have hNh : Hid (Calls Tryz.prog 73 #[.slice a l.length cap, .int .i64 (A : Nat), .int .i64 (b : Nat), .int .i64 x] (w.alloc (.cells #[.int .i64 0, .int .i64 0, .bool false, .bool false, .int .i64 0] 41)) fun e w' => e = .returned (.int .i64 (ntV l A b x)) ∧ Below (w.alloc (.cells #[.int .i64 0, .int .i64 0, .bool false, .bool false, .int .i64 0] 41)).heap.size (w.alloc (.cells #[.int .i64 0, .int .i64 0, .bool false, .bool false, .int .i64 0] 41)) w') := hN
  have hz0 := World.alloc_heap_new w (.cells #[.int .i64 0, .int .i64 0, .bool false, .bool false, .int .i64 0] 41)
  have hzh : Hid ((w.alloc (.cells #[.int .i64 0, .int .i64 0, .bool false, .bool false, .int .i64 0] 41)).heap[w.heap.size]? = some (.cells #[.int .i64 0, .int .i64 0, .bool false, .bool false, .int .i64 0] 41)) := hz0
  have hBh : Hid (Below w.heap.size w (w.alloc (.cells #[.int .i64 0, .int .i64 0, .bool false, .bool false, .int .i64 0] 41))) := hB
  have hb8 : (b : Int) ≤ 8192 := by omega
  by_cases hbl : b < l.length
  · have hbl' : (b : Int) < l.length := by omega
    obtain ⟨g, o, rfl, hgl, hit⟩ := its_at hS hbl
    rw [hyB_in hbl]
    have hith : Hid (∀ W, Below w.heap.size w W → W.cell? ⟨g, o + b * 8, none⟩ = some (.int .i64 (l[b]).k) ∧ W.cell? ⟨g, o + b * 8 + 7, none⟩ = some (.bool (l[b]).y)) := fun W hW => ⟨(hit W hW).c0, (hit W hW).c7⟩
    have hyk : Hid ((l[b]).k ≠ 3 → (l[b]).y = false) := fun h => by
      have := hy_pen hck hbl
      rw [itAt_is hbl] at this
      cases hy : (l[b]).y
      · rfl
      · exact absurd (this hy) h
    clear hN hB hz0 hS hit hck
    generalize ntV l A b x = nt at *
    generalize (l[b]).k = kd at *
    generalize (l[b]).y = y at *
    by_cases h3 : kd = 3
    · have q3 : (kd == 3) = true := by rw [h3]; rfl
      clear h3 hyk
      go_enter Tryz.func58, Tryz.ntmps58
      go_wp2_with fail
      have hlt : Hid (w.heap.size < (w.alloc (.cells #[.int .i64 0, .int .i64 0, .bool false, .bool false, .int .i64 0] 41)).heap.size) := by show _ < _; simp
      generalize w.alloc (.cells #[.int .i64 0, .int .i64 0, .bool false, .bool false, .int .i64 0] 41) = wz at *
      go_wp2_with (first | (go_at_call 73; refine hNh.out.mono ?_; rintro e w1 ⟨rfl, hb1⟩; have hb1a := (hBh.out.trans (hb1.mono hBh.out.size)).alloc (by have := hBh.out.size; have := hb1.size; omega) (.cells #[.int .i64 (A : Nat), .int .i64 (b : Nat), .bool false, .bool false, .int .i64 nt] 41); obtain ⟨x0, x7⟩ := hith.out _ hb1a) | (refine wpList_load_row rfl 41 _ rfl w1.heap.size rfl 41 (pcL ⟨A, b, false, y, nt⟩).toArray (0, 0) _ (World.alloc_heap_new w1 _) Tryz.underlying41 rfl (info41 _) ?_) | (have hz1 : (w1.alloc (.cells (pcL ⟨A, b, false, y, nt⟩).toArray 41)).heap[w.heap.size]? = some (.cells #[.int .i64 0, .int .i64 0, .bool false, .bool false, .int .i64 0] 41 (0, 0)) := ((Below.heap_alloc _ _ _ (Nat.lt_of_lt_of_le hlt.out hb1.size)).trans ((hb1.block _ hlt.out).trans hzh.out)); refine wpList_store_row rfl 41 _ _ rfl w.heap.size (pcL ⟨A, b, false, y, nt⟩).toArray rfl rfl 41 _ hz1 (info41 _) rfl (pcL_all _) ?_))
      have hz1 : (w1.alloc (.cells (pcL ⟨A, b, false, y, nt⟩).toArray 41)).heap[w.heap.size]? = some (.cells #[.int .i64 0, .int .i64 0, .bool false, .bool false, .int .i64 0] 41 (0, 0)) := ((Below.heap_alloc _ _ _ (Nat.lt_of_lt_of_le hlt.out hb1.size)).trans ((hb1.block _ hlt.out).trans hzh.out))
      have hw1 : Below w.heap.size w (w1.alloc (.cells (pcL ⟨A, b, false, y, nt⟩).toArray 41)) := (hBh.out.trans (hb1.mono hBh.out.size)).alloc (by have := hBh.out.size; have := hb1.size; omega) _
      exact bodyPost_ret (results_cell_row rfl _ _ w.heap.size 41 (pcL ⟨A, b, false, y, nt⟩).toArray (0, 0) _ rfl (setRow_heap _ _ _ _ _ _ hz1) Tryz.underlying41 rfl (info41 _)) rfl ⟨rfl, hw1.trans ((Turns.setRow (X := fun k => k = w.heap.size) _ rfl _).below hw1.size (fun k hk => by omega))⟩
    · have q3 : (kd == 3) = false := by simpa using h3
      have hy := hyk.out h3
      subst hy
      clear h3 hyk
      go_enter Tryz.func58, Tryz.ntmps58
      go_wp2_with fail
      have hlt : Hid (w.heap.size < (w.alloc (.cells #[.int .i64 0, .int .i64 0, .bool false, .bool false, .int .i64 0] 41)).heap.size) := by show _ < _; simp
      generalize w.alloc (.cells #[.int .i64 0, .int .i64 0, .bool false, .bool false, .int .i64 0] 41) = wz at *
      go_wp2_with (first | (go_at_call 73; refine hNh.out.mono ?_; rintro e w1 ⟨rfl, hb1⟩; have hb1a := (hBh.out.trans (hb1.mono hBh.out.size)).alloc (by have := hBh.out.size; have := hb1.size; omega) (.cells #[.int .i64 (A : Nat), .int .i64 (b : Nat), .bool false, .bool false, .int .i64 nt] 41); obtain ⟨x0, x7⟩ := hith.out _ hb1a) | (refine wpList_load_row rfl 41 _ rfl w1.heap.size rfl 41 (pcL ⟨A, b, false, false, nt⟩).toArray (0, 0) _ (World.alloc_heap_new w1 _) Tryz.underlying41 rfl (info41 _) ?_) | (have hz1 : (w1.alloc (.cells (pcL ⟨A, b, false, false, nt⟩).toArray 41)).heap[w.heap.size]? = some (.cells #[.int .i64 0, .int .i64 0, .bool false, .bool false, .int .i64 0] 41 (0, 0)) := ((Below.heap_alloc _ _ _ (Nat.lt_of_lt_of_le hlt.out hb1.size)).trans ((hb1.block _ hlt.out).trans hzh.out)); refine wpList_store_row rfl 41 _ _ rfl w.heap.size (pcL ⟨A, b, false, false, nt⟩).toArray rfl rfl 41 _ hz1 (info41 _) rfl (pcL_all _) ?_))
      have hz1 : (w1.alloc (.cells (pcL ⟨A, b, false, false, nt⟩).toArray 41)).heap[w.heap.size]? = some (.cells #[.int .i64 0, .int .i64 0, .bool false, .bool false, .int .i64 0] 41 (0, 0)) := ((Below.heap_alloc _ _ _ (Nat.lt_of_lt_of_le hlt.out hb1.size)).trans ((hb1.block _ hlt.out).trans hzh.out))
      have hw1 : Below w.heap.size w (w1.alloc (.cells (pcL ⟨A, b, false, false, nt⟩).toArray 41)) := (hBh.out.trans (hb1.mono hBh.out.size)).alloc (by have := hBh.out.size; have := hb1.size; omega) _
      exact bodyPost_ret (results_cell_row rfl _ _ w.heap.size 41 (pcL ⟨A, b, false, false, nt⟩).toArray (0, 0) _ rfl (setRow_heap _ _ _ _ _ _ hz1) Tryz.underlying41 rfl (info41 _)) rfl ⟨rfl, hw1.trans ((Turns.setRow (X := fun k => k = w.heap.size) _ rfl _).below hw1.size (fun k hk => by omega))⟩
  · have hbl' : ¬ (b : Int) < l.length := by omega
    rw [hyB_out hbl]
    clear hN hB hz0 hS hck
    generalize ntV l A b x = nt at *
    go_enter Tryz.func58, Tryz.ntmps58
    go_wp2_with fail
    have hlt : Hid (w.heap.size < (w.alloc (.cells #[.int .i64 0, .int .i64 0, .bool false, .bool false, .int .i64 0] 41)).heap.size) := by show _ < _; simp
    generalize w.alloc (.cells #[.int .i64 0, .int .i64 0, .bool false, .bool false, .int .i64 0] 41) = wz at *
    go_wp2_with (first | (go_at_call 73; refine hNh.out.mono ?_; rintro e w1 ⟨rfl, hb1⟩) | (refine wpList_load_row rfl 41 _ rfl w1.heap.size rfl 41 (pcL ⟨A, b, false, false, nt⟩).toArray (0, 0) _ (World.alloc_heap_new w1 _) Tryz.underlying41 rfl (info41 _) ?_) | (have hz1 : (w1.alloc (.cells (pcL ⟨A, b, false, false, nt⟩).toArray 41)).heap[w.heap.size]? = some (.cells #[.int .i64 0, .int .i64 0, .bool false, .bool false, .int .i64 0] 41 (0, 0)) := ((Below.heap_alloc _ _ _ (Nat.lt_of_lt_of_le hlt.out hb1.size)).trans ((hb1.block _ hlt.out).trans hzh.out)); refine wpList_store_row rfl 41 _ _ rfl w.heap.size (pcL ⟨A, b, false, false, nt⟩).toArray rfl rfl 41 _ hz1 (info41 _) rfl (pcL_all _) ?_))
    have hz1 : (w1.alloc (.cells (pcL ⟨A, b, false, false, nt⟩).toArray 41)).heap[w.heap.size]? = some (.cells #[.int .i64 0, .int .i64 0, .bool false, .bool false, .int .i64 0] 41 (0, 0)) := ((Below.heap_alloc _ _ _ (Nat.lt_of_lt_of_le hlt.out hb1.size)).trans ((hb1.block _ hlt.out).trans hzh.out))
    have hw1 : Below w.heap.size w (w1.alloc (.cells (pcL ⟨A, b, false, false, nt⟩).toArray 41)) := (hBh.out.trans (hb1.mono hBh.out.size)).alloc (by have := hBh.out.size; have := hb1.size; omega) _
    exact bodyPost_ret (results_cell_row rfl _ _ w.heap.size 41 (pcL ⟨A, b, false, false, nt⟩).toArray (0, 0) _ rfl (setRow_heap _ _ _ _ _ _ hz1) Tryz.underlying41 rfl (info41 _)) rfl ⟨rfl, hw1.trans ((Turns.setRow (X := fun k => k = w.heap.size) _ rfl _).below hw1.size (fun k hk => by omega))⟩
end Go.Proofs.YtnnlfeimebiboaaGreatDoor
