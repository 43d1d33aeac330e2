/-
  What is proved here: what the document's Slice answers (for SpanScript).
-/
import Derived.Test.YtjakmekifpbldaaRefB
namespace Go.Proofs.Ytjakmekifpbldaa
open Go.RowKit Go.Shelf

theorem seen_part {W : World} {b g n cap p q : Nat} {L : List Ch} (h : CharsAt W b (.slice (some ⟨g, 0, none⟩) n cap) L) (h1 : p ≤ q) (h2 : q ≤ L.length) :
    Seen W (.slice (if cap = p then some ⟨g, 0, none⟩ else some ⟨g, p * 3, none⟩) (q - p) (cap - p)) (sub L p q) := by
  refine ⟨_, _, by rw [sub_length L h2], ?_⟩
  by_cases hpq : p = q
  · subst hpq; exact .inl (sub_self L p)
  · have hc := h.cap
    rw [if_neg (by omega)]
    have hg : g < W.heap.size := by obtain ⟨cur, hg⟩ := h.block; exact (Array.getElem?_eq_some_iff.1 hg).1
    refine .inr ⟨g, p * 3, rfl, hg, fun i hi => ?_⟩
    rw [sub_length L h2] at hi
    have hii : p + i < L.length := by omega
    obtain ⟨g', cp', hv, _, r⟩ := h.cells (i := p + i) hii
    cases hv
    have he : (sub L p q)[i]'(by rw [sub_length L h2]; exact hi) = L[p + i] := by
      have := sub_get L (a := p) (b := q) (j := i) (by omega)
      rw [List.getElem?_eq_getElem hii, List.getElem?_eq_getElem (by rw [sub_length L h2]; exact hi)] at this
      injection this
    rw [he]
    have e0 : (p + i) * 3 = p * 3 + i * 3 := by omega
    rw [e0] at r
    exact r
theorem seen_nil (W : World) (c : Nat) : Seen W (.slice none 0 c) [] := ⟨_, _, rfl, .inl rfl⟩

set_option maxHeartbeats 1000000 in
theorem rslice_range (t : Nat) (v : Value) (L : List Ch) (m : Ch) (a b : Int) (hx : a < 0 ∨ b < a ∨ (L.length : Int) < b) (w : World) (h : RefAt t v L m w) :
    Calls Try.prog 40 #[.pointer (some ⟨t, 0, none⟩), .int .i64 a, .int .i64 b] w fun e w' => e = .returned (.tuple #[.slice none 0 0, .int .i64 5]) ∧ w' = w := by
  obtain ⟨c0, _, _, _⟩ := h.cells
  obtain ⟨a0, cp0, rfl⟩ := h.row.form
  clear h
  generalize L.length = k at *
  by_cases h1 : a < 0
  · clear hx
    go_enter Try.func40, Try.ntmps40
    go_wp2_with fail
    go_ret2
    exact ⟨rfl, rfl⟩
  · by_cases h2 : b < a
    · clear hx
      go_enter Try.func40, Try.ntmps40
      go_wp2_with fail
      go_ret2
      exact ⟨rfl, rfl⟩
    · have h3 : (k : Int) < b := by omega
      clear hx
      go_enter Try.func40, Try.ntmps40
      go_wp2_with fail
      go_ret2
      exact ⟨rfl, rfl⟩

set_option maxHeartbeats 1000000 in
theorem rslice_ok (t : Nat) (v : Value) (L : List Ch) (m : Ch) (p q : Nat) (h1 : p ≤ q) (h2 : q ≤ L.length) (w : World) (h : RefAt t v L m w) :
    Calls Try.prog 40 #[.pointer (some ⟨t, 0, none⟩), .int .i64 p, .int .i64 q] w fun e w' => ∃ v, e = .returned (.tuple #[v, .int .i64 0]) ∧ RowAt w' w.heap.size 61 v (rle (sub L p q)) ∧ Below w.heap.size w w' := by
  have hfew := h.few
  obtain ⟨c0, _, _, _⟩ := h.cells
  rcases h.row.out.2 with ⟨rfl, hn⟩ | ⟨g, cap, cur, rfl, _, hg, hcap, hmax, _⟩
  · obtain rfl : q = 0 := by omega
    obtain rfl : p = 0 := by omega
    have hr := runs_any _ [] (by simp) w (seen_nil w 0)
    have hs : sub L 0 0 = [] := sub_self L 0
    rw [hs]
    clear h hs
    go_enter Try.func40, Try.ntmps40
    go_wp2_with fail
    refine hr.mono ?_
    rintro e w1 ⟨u, rfl, r, hb⟩
    obtain ⟨a1, cp1, rfl⟩ := r.form
    go_wp2_with fail
    go_ret2
    exact ⟨_, rfl, r, hb⟩
  · have hsn := seen_part h.row h1 h2
    have hr : Hid (∀ a c, Seen w (.slice a (q - p) c) (sub L p q) → Calls Try.prog 41 #[.slice a (q - p) c] w fun e w' => ∃ u, e = .returned u ∧ RowAt w' w.heap.size 61 u (rle (sub L p q)) ∧ Below w.heap.size w w') := fun a c hs => runs_any _ (sub L p q) (by rw [sub_length L h2]; omega) w hs
    have hp0 : ¬ (p : Int) < 0 := by omega
    clear h
    generalize hS : rle (sub L p q) = S at *
    by_cases hc : cap = p
    · subst hc
      rw [if_pos rfl, Nat.sub_self] at hsn
      have hsn' : Hid _ := hsn
      clear hsn
      go_enter Try.func40, Try.ntmps40
      go_wp2_with (go_at_call 41; refine (hr.out _ _ (by exact hsn'.out)).mono ?_; rintro e w1 ⟨u, rfl, r, hb⟩; obtain ⟨a1, cp1, rfl⟩ := r.form)
      go_ret2
      exact ⟨_, rfl, r, hb⟩
    · rw [if_neg hc] at hsn
      have hsn' : Hid _ := hsn
      clear hsn
      go_enter Try.func40, Try.ntmps40
      go_wp2_with (go_at_call 41; refine (hr.out _ _ (by exact hsn'.out)).mono ?_; rintro e w1 ⟨u, rfl, r, hb⟩; obtain ⟨a1, cp1, rfl⟩ := r.form)
      go_ret2
      exact ⟨_, rfl, r, hb⟩
end Go.Proofs.Ytjakmekifpbldaa
