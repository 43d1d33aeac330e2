/-
  What is proved here: what the document's New answers (for SpanScript).
-/
import Derived.Test.YtjakmekifpbldaaRefF
import Derived.Test.YtjakmekifpbldaaRefE
namespace Go.Proofs.Ytjakmekifpbldaa
open Go.RowKit Go.Shelf

set_option maxHeartbeats 1000000 in
theorem rnew_bad (n : Int) (c : Ch) (hc : mayC c = false) (w : World) :
    Calls Try.prog 9 #[.int .i64 n, chV c] w fun e w' => e = .returned (.tuple #[.pointer none, .int .i64 2]) ∧ Below w.heap.size w w' := by
  have hmay := refMay_any c
  unfold chV at hmay ⊢
  have B0 := (Below.refl w.heap.size w).alloc (Nat.le_refl _) (.cells #[.int .i64 c.s, .int .i64 c.t, .int .i64 c.k] 23)
  rw [hc] at hmay
  clear hc
  go_enter Try.func9, Try.ntmps9
  go_wp2_with (go_at_call 11; refine (hmay _).mono ?_; rintro e w' ⟨rfl, B1⟩)
  go_ret2
  exact ⟨rfl, B0.trans (B1.mono B0.size)⟩

set_option maxHeartbeats 1000000 in
theorem rnew_out (n : Int) (c : Ch) (hc : mayC c = true) (hn : n < 0 ∨ 4096 < n) (w : World) :
    Calls Try.prog 9 #[.int .i64 n, chV c] w fun e w' => e = .returned (.tuple #[.pointer none, .int .i64 (if n < 0 then 5 else 8)]) ∧ Below w.heap.size w w' := by
  have hmay := refMay_any c
  unfold chV at hmay ⊢
  have B0 := (Below.refl w.heap.size w).alloc (Nat.le_refl _) (.cells #[.int .i64 c.s, .int .i64 c.t, .int .i64 c.k] 23)
  rw [hc] at hmay
  clear hc
  by_cases h : n < 0
  · rw [if_pos h]
    clear hn
    go_enter Try.func9, Try.ntmps9
    go_wp2_with (go_at_call 11; refine (hmay _).mono ?_; rintro e w' ⟨rfl, B1⟩)
    go_ret2
    exact ⟨rfl, B0.trans (B1.mono B0.size)⟩
  · rw [if_neg h]
    have h2 : 4096 < n := by omega
    clear hn
    go_enter Try.func9, Try.ntmps9
    go_wp2_with (go_at_call 11; refine (hmay _).mono ?_; rintro e w' ⟨rfl, B1⟩)
    go_ret2
    exact ⟨rfl, B0.trans (B1.mono B0.size)⟩

set_option maxRecDepth 100000 in
set_option maxHeartbeats 1000000 in
theorem rnew_ok (n : Nat) (c : Ch) (hc : mayC c = true) (hn : n ≤ 4096) (w : World) :
    Calls Try.prog 9 #[.int .i64 n, chV c] w fun e w' => ∃ t v, e = .returned (.tuple #[.pointer (some ⟨t, 0, none⟩), .int .i64 0]) ∧ w.heap.size ≤ t ∧ RefAt t v (List.replicate n c) c w' ∧ Below w.heap.size w w' := by
  have hmay := refMay_any c
  unfold chV at hmay ⊢
  have B0 := (Below.refl w.heap.size w).alloc (Nat.le_refl _) (.cells #[.int .i64 c.s, .int .i64 c.t, .int .i64 c.k] 23)
  have hX0 := heap_new w (.cells #[.int .i64 c.s, .int .i64 c.t, .int .i64 c.k] 23)
  rw [hc] at hmay
  clear hc
  have h1 : ¬ (n : Int) < 0 := by omega
  have h2 : ¬ 4096 < (n : Int) := by omega
  go_enter Try.func9, Try.ntmps9
  go_wp2_with (go_at_call 11; refine (hmay _).mono ?_; rintro e w1 ⟨rfl, B1⟩; obtain ⟨hX1, e0, e1, e2⟩ := box3 hX0 B1; have C1 := B0.trans (B1.mono B0.size))
  have hO := heap_new w1 (.cells #[.slice none 0 0, .int .i64 c.s, .int .i64 c.t, .int .i64 c.k] 68)
  have B2 := (Below.refl w1.heap.size w1).alloc (Nat.le_refl _) (.cells #[.slice none 0 0, .int .i64 c.s, .int .i64 c.t, .int .i64 c.k] 68)
  have hX2 := (box3 hX1 B2).1
  have hsz := World.size_alloc w1 (.cells #[.slice none 0 0, .int .i64 c.s, .int .i64 c.t, .int .i64 c.k] 68)
  have C2 := C1.trans (B2.mono C1.size)
  have hxl : w.heap.size < w1.heap.size := (Array.getElem?_eq_some_iff.1 hX1).1
  generalize hW : w1.alloc (.cells #[.slice none 0 0, .int .i64 c.s, .int .i64 c.t, .int .i64 c.k] 68) = W2 at *
  have hW' : Hid _ := hW
  clear hW
  go_loopw [7] (fun i wr => ∃ (k : Nat) (v : Value), k ≤ n ∧ i = .int .i64 k ∧ Below w.heap.size W2 wr ∧ wr.heap[w1.heap.size]? = some (.cells #[v, .int .i64 c.s, .int .i64 c.t, .int .i64 c.k] 68 (0, 0)) ∧ CharsAt wr (w1.heap.size + 1) v (List.replicate k c) ∧ wr.heap[w.heap.size]? = some (.cells #[.int .i64 c.s, .int .i64 c.t, .int .i64 c.k] 23 (0, 0)) ∧ W2.heap.size ≤ wr.heap.size) (fun i _ => n - (intOf i).toNat)
  case atStart => exact ⟨0, _, by omega, rfl, Below.refl _ _, hO, World.ownsRow_nil _ _ _ _, hX2, Nat.le_refl _⟩
  case round =>
    obtain ⟨k, v, hk, rfl, hb, ho, hrow, hx, hs⟩ := hrel
    by_cases hlt : k < n
    · obtain ⟨a, cp, hv⟩ := hrow.form
      rw [List.length_replicate] at hv
      subst hv
      have hD : Hid (wr.heap[w1.heap.size]? = some (.cells #[.slice a k cp, .int .i64 c.s, .int .i64 c.t, .int .i64 c.k] 68 (0, 0)) ∧ CharsAt wr (w1.heap.size + 1) (.slice a k cp) (List.replicate k c) ∧ wr.heap[w.heap.size]? = some (.cells #[.int .i64 c.s, .int .i64 c.t, .int .i64 c.k] 23 (0, 0))) := ⟨ho, hrow, hx⟩
      clear ho hrow hx
      go_wp2_with fail
      refine new_region _ (fun _ _ _ _ _ h => h) _ _ _ _ _ _ _ (w1.heap.size + 1) w.heap.size _ _ _ (by simp) (by omega) _ hD.out.1 hD.out.2.2 hD.out.2.1 (by omega) (by omega) (by omega) (by omega) (by omega) (by omega) (by omega) ?_
      intro s29 u W' k1 k2 k3 k4
      have k2' : CharsAt W' (w1.heap.size + 1) u (List.replicate (k + 1) c) := by rw [List.replicate_succ']; exact k2
      have K' : Hid _ := And.intro k1 (And.intro k2' k4)
      have hsW : wr.heap.size ≤ W'.heap.size := k3.size
      have hb' := hb.trans k3
      clear k1 k2 k2' k4
      unfold fr9
      go_wp2_with fail
      go_roundw
      case rel => exact ⟨k + 1, u, by omega, by simp, hb', K'.out.1, K'.out.2.1, K'.out.2.2, by omega⟩
      case measure => simp [intOf]; omega
    · obtain rfl : k = n := by omega
      have hD : Hid (RefAt w1.heap.size v (List.replicate k c) c wr) := ⟨ho, hrow.base (Nat.zero_le _), by rw [List.length_replicate]; exact hn⟩
      clear ho hrow hx
      go_wp2_with fail
      go_ret2
      exact ⟨_, _, rfl, by omega, hD.out, C2.trans hb⟩
end Go.Proofs.Ytjakmekifpbldaa
