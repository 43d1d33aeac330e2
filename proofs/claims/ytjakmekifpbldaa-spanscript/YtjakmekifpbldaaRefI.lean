/-
  What is proved here: what the document's Set answers (for SpanScript).
-/
import Derived.Test.YtjakmekifpbldaaRefH
namespace Go.Proofs.Ytjakmekifpbldaa
open Go.RowKit Go.Shelf

set_option maxHeartbeats 1000000 in
theorem rset_range (t : Nat) (v : Value) (L : List Ch) (m : Ch) (a b : Int) (c : Ch) (hx : a < 0 ∨ b < 0 ∨ (L.length : Int) < a ∨ (L.length : Int) - a < b) (w : World) (h : RefAt t v L m w) :
    Calls Try.prog 38 #[.pointer (some ⟨t, 0, none⟩), .int .i64 a, .int .i64 b, chV c] w fun e w' => e = .returned (.int .i64 5) ∧ Below w.heap.size w w' := by
  have B0 := (Below.refl w.heap.size w).alloc (Nat.le_refl _) (.cells #[.int .i64 c.s, .int .i64 c.t, .int .i64 c.k] 23)
  have hsp := rspan_no t v L m a b hx _ (h.below B0)
  unfold chV
  clear h hx
  go_enter Try.func38, Try.ntmps38
  go_wp2_with (go_at_call 48; refine hsp.mono ?_; rintro e w' ⟨rfl, hww⟩; subst w')
  go_ret
  exact ⟨rfl, B0⟩

set_option maxHeartbeats 1000000 in
theorem rset_bad (t : Nat) (v : Value) (L : List Ch) (m : Ch) (p n : Nat) (c : Ch) (hp : p + n ≤ L.length) (hc : mayC c = false) (w : World) (h : RefAt t v L m w) :
    Calls Try.prog 38 #[.pointer (some ⟨t, 0, none⟩), .int .i64 p, .int .i64 n, chV c] w fun e w' => e = .returned (.int .i64 2) ∧ Below w.heap.size w w' := by
  have B0 := (Below.refl w.heap.size w).alloc (Nat.le_refl _) (.cells #[.int .i64 c.s, .int .i64 c.t, .int .i64 c.k] 23)
  have hsp := rspan_yes t v L m p n hp _ (h.below B0)
  have hmay := refMay_any c
  rw [hc] at hmay
  unfold chV at hmay ⊢
  clear h hc
  go_enter Try.func38, Try.ntmps38
  go_wp2_with (first
    | (go_at_call 48; refine hsp.mono ?_; rintro e w' ⟨rfl, hww⟩; subst w')
    | (go_at_call 11; refine (hmay _).mono ?_; rintro e w1 ⟨rfl, B1⟩))
  go_ret
  exact ⟨rfl, B0.trans (B1.mono B0.size)⟩

set_option maxRecDepth 100000 in
set_option maxHeartbeats 1000000 in
theorem rset_ok (t : Nat) (v : Value) (L : List Ch) (m : Ch) (p n : Nat) (c : Ch) (hp : p + n ≤ L.length) (hc : mayC c = true) (w : World) (h : RefAt t v L m w) :
    Calls Try.prog 38 #[.pointer (some ⟨t, 0, none⟩), .int .i64 p, .int .i64 n, chV c] w fun e w' => ∃ v', e = .returned (.int .i64 0) ∧ RefAt t v' (setL L p n c) m w' ∧ Only t w w' := by
  have hfew := h.few
  have hlt := h.lt
  obtain ⟨ii, hi0, hi1, hi2, hi3⟩ := info_parts info23
  have B0 := (Below.refl w.heap.size w).alloc (Nat.le_refl _) (.cells #[.int .i64 c.s, .int .i64 c.t, .int .i64 c.k] 23)
  have hX0 := heap_new w (.cells #[.int .i64 c.s, .int .i64 c.t, .int .i64 c.k] 23)
  have hsp := rspan_yes t v L m p n hp _ (h.below B0)
  have hmay := refMay_any c
  rw [hc] at hmay
  unfold chV at hmay ⊢
  obtain ⟨a0, cp0, rfl⟩ := h.row.form
  have h' : Hid (RefAt t (.slice a0 L.length cp0) L m w) := h
  clear h hc
  have hsl : Hid (∀ j, j ≤ n → (setL L p j c).length = L.length) := fun j hj => setL_length L c (by omega)
  have hss : Hid (∀ j, j < n → (setL L p j c).set (p + j) c = setL L p (j + 1) c) := fun j hj => setL_succ L p j c (by omega)
  have hs0 : Hid (setL L p 0 c = L) := setL_zero L c (by omega)
  generalize hk : L.length = k at *
  have hk' : Hid _ := hk
  clear hk
  go_enter Try.func38, Try.ntmps38
  go_wp2_with (first
    | (go_at_call 48; refine hsp.mono ?_; rintro e w' ⟨rfl, hww⟩; subst w')
    | (go_at_call 11; refine (hmay _).mono ?_; rintro e w1 ⟨rfl, B1⟩; obtain ⟨hX1, e0, e1, e2⟩ := box3 hX0 B1; have C1 := B0.trans (B1.mono B0.size); have hR1 := h'.out.below C1; obtain ⟨d0, _, _, _⟩ := hR1.cells; have D1 := (Below.refl w1.heap.size w1).alloc (Nat.le_refl _) (.cells #[] 23); obtain ⟨d0', _, _, _⟩ := (hR1.below D1).cells; have hsr : Hid (Srcs (w1.alloc (.cells #[] 23)) 3 (.slice a0 k cp0) k (chRow L)) := (by have := hR1.row.srcs D1; rwa [hk'.out] at this); clear hR1)
    | (at_builtin; refine wpList_append_any _ rfl _ _ 58 rfl w1.heap.size 23 ii _ 3 24 Try.underlying58 hi0 hi1 hi2 hi3 rfl (by decide) _ 0 [] rfl (by exact ownsRow_lit w1 23 3 _ (Nat.le_refl _)) k (chRow L) _ rfl (by exact hsr.out) (by unfold maxLen; omega) (by omega) D1.size ?_; intro u w2 hown hgrow; rw [Nat.zero_add, List.nil_append] at hown; have r2 : CharsAt w2 w1.heap.size u L := charsAt_of hown hk'.out.symm rfl; have B2 : Below w1.heap.size w1 w2 := below_grown D1 (ownsRow_lit w1 23 3 _ (Nat.le_refl _)) (Nat.le_refl _) (Nat.le_refl _) hgrow; clear hown hgrow; have C2 := C1.trans (B2.mono C1.size); have hf2 := Lib.frozen_of_heap (h'.out.below C2).obj 0; obtain ⟨d2, _, _, _⟩ := (h'.out.below C2).cells; have hX2 := (box3 hX1 B2).1; have hst := h'.out.store C2 (r2.base C1.size) (by rw [hk'.out]; omega); have r2' : Hid (CharsAt w2 w1.heap.size u L) := r2; obtain ⟨au, cu, hu⟩ := r2.form; rw [hk'.out] at hu; subst hu; clear r2))
  have hxt : w.heap.size ≠ t := by omega
  have hons : Only t w2 (w2.setCell ⟨t, 0, none⟩ (.slice au k cu)) := ⟨rfl, rfl, rfl, by simp, fun k _ hne => Below.heap_setCell _ _ _ k (by intro e; exact hne (by rw [e]))⟩
  have hX3 := (hons.block w.heap.size (Array.getElem?_eq_some_iff.1 hX2).1 (by simp; exact hxt)).trans hX2
  have hr3 := r2'.out.keep hons (fun q hq e => by have := (r2'.out.out.lt q hq).1; have := C1.size; omega)
  have hxl : w.heap.size < w1.heap.size := (Array.getElem?_eq_some_iff.1 hX1).1
  have hC1 := C1.size
  generalize hW : w2.setCell ⟨t, 0, none⟩ (.slice au k cu) = W3 at *
  have hst' : Hid _ := hst
  clear hst hW d2 hf2 d0 d0' hons
  go_loopw [9] (fun i wr => ∃ q : Nat, p ≤ q ∧ q ≤ p + n ∧ i = .int .i64 q ∧ wr.heap[t]? = some (.cells #[.slice au k cu, .int .i64 m.s, .int .i64 m.t, .int .i64 m.k] 68 (0, 0)) ∧ wr.heap[w.heap.size]? = some (.cells #[.int .i64 c.s, .int .i64 c.t, .int .i64 c.k] 23 (0, 0)) ∧ CharsAt wr w1.heap.size (.slice au k cu) (setL L p (q - p) c) ∧ Only t w wr) (fun i _ => p + n - (intOf i).toNat)
  case atStart => exact ⟨p, by omega, by omega, rfl, hst'.out.1.obj, hX3, by rw [Nat.sub_self, hs0.out]; exact hr3, hst'.out.2⟩
  case round =>
    obtain ⟨q, hq1, hq2, rfl, ho, hx, hr, hon⟩ := hrel
    have hl := hsl.out (q - p) (by omega)
    by_cases hlt : q < p + n
    · obtain ⟨g, hau⟩ : ∃ g, au = some ⟨g, 0, none⟩ := by
        obtain ⟨g, cp', hv, _⟩ := hr.cells (i := q) (by omega)
        injection hv with h1
        exact ⟨g, h1⟩
      subst hau
      have hgb := (hr.out.lt g rfl).1
      have hD : Hid (wr.heap[t]? = some (.cells #[.slice (some ⟨g, 0, none⟩) k cu, .int .i64 m.s, .int .i64 m.t, .int .i64 m.k] 68 (0, 0)) ∧ wr.heap[w.heap.size]? = some (.cells #[.int .i64 c.s, .int .i64 c.t, .int .i64 c.k] 23 (0, 0)) ∧ CharsAt wr w1.heap.size (.slice (some ⟨g, 0, none⟩) k cu) (setL L p (q - p) c)) := ⟨ho, hx, hr⟩
      have hl' : Hid _ := hl
      have hon' : Hid (Only t w wr) := hon
      clear ho hx hr hl hon
      go_wp2_with fail
      refine set_region _ (fun _ _ _ _ _ h => h) _ _ g k cu t w.heap.size q w1.heap.size _ c m hl'.out.symm (by omega) (by omega) _ hD.out.1 hD.out.2.1 hD.out.2.2 (by omega) (by omega) ?_
      intro W' k1 k2 k3 k4
      have hset := hss.out (q - p) (by omega)
      rw [show p + (q - p) = q by omega, show q - p + 1 = q + 1 - p by omega] at hset
      rw [hset] at k1
      have k5 : Only t w W' := ⟨k2.os.trans hon'.out.os, k2.tape.trans hon'.out.tape, k2.output.trans hon'.out.output, Nat.le_trans hon'.out.size k2.size, fun j hj hne => (k2.block j (Nat.lt_of_lt_of_le hj hon'.out.size) (by simp; omega)).trans (hon'.out.block j hj hne)⟩
      have K' : Hid _ := And.intro k1 (And.intro k3 (And.intro k4 k5))
      clear k1 k2 k3 k4 k5 hset
      unfold fr38
      go_wp2_with fail
      go_roundw
      case rel => exact ⟨q + 1, by omega, by omega, by simp, K'.out.2.1, K'.out.2.2.1, K'.out.1, K'.out.2.2.2⟩
      case measure => simp [intOf]; omega
    · obtain rfl : q = p + n := by omega
      rw [Nat.add_sub_cancel_left] at hr hl
      have hD : Hid (RefAt t (.slice au k cu) (setL L p n c) m wr) := ⟨ho, hr.base (Nat.zero_le _), by rw [hl]; exact hfew⟩
      have hon' : Hid (Only t w wr) := hon
      clear ho hx hr hl hon
      go_wp2_with fail
      go_ret
      exact ⟨_, rfl, hD.out, hon'.out⟩
end Go.Proofs.Ytjakmekifpbldaa
