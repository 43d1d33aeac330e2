/-
  What is proved here: two pairs of looks, one of which turns (for SpanScript).
-/
import Derived.Test.YtjakmekifpbldaaRefR
namespace Go.Proofs.Ytjakmekifpbldaa
open Go.RowKit Go.Shelf

/-- Looks, on both sides alike. -/
def Pair (l q : Nat) (W : World) : Prop := ∃ sv v L m, LooksAt l sv L m W ∧ RefAt q v L m W
theorem Pair.below {l q : Nat} {W W' : World} (h : Pair l q W) (hb : Below W.heap.size W W') : Pair l q W' := by
  obtain ⟨sv, v, L, m, h1, h2⟩ := h
  exact ⟨sv, v, L, m, h1.below hb, h2.below hb⟩
theorem row_type {W : World} {base e : Nat} {size n : Nat} {v : Value} {xs : List Value} {g : Nat} {cs : Array Value} {ty : TypeId} {fr : Nat × Nat} (h : W.ownsRow base e size v n xs) (hg : W.heap[g]? = some (.cells cs ty fr)) (hty : ty ≠ e) : ∀ k, v.ownBlock = some k → k ≠ g := by
  intro k hk he
  subst he
  rcases h.2 with ⟨rfl, _⟩ | ⟨g2, cap, cur2, rfl, _, hg2, _⟩
  · cases hk
  · cases hk
    rw [hg] at hg2
    injection hg2 with this
    injection this with _ h3 _
    exact hty h3
theorem row_keep {W W' : World} {base e size n : Nat} {v : Value} {xs : List Value} (h : W.ownsRow base e size v n xs) (hk : ∀ k, v.ownBlock = some k → k < W.heap.size → W'.heap[k]? = W.heap[k]?) : W'.ownsRow base e size v n xs := by
  refine ⟨h.1, ?_⟩
  rcases h.2 with hn | ⟨g, cap, cur, rfl, hb, hg, r⟩
  · exact .inl hn
  · exact .inr ⟨g, cap, cur, rfl, hb, (hk g rfl (Array.getElem?_eq_some_iff.1 hg).1).trans hg, r⟩
theorem type_ne {W : World} {a b : Nat} {cs ds : Array Value} {t u : TypeId} {f g : Nat × Nat} (h : W.heap[a]? = some (.cells cs t f)) (k : W.heap[b]? = some (.cells ds u g)) (hne : t ≠ u) : a ≠ b := by
  intro e
  subst e
  rw [h] at k
  injection k with this
  injection this with _ h3 _
  exact hne h3
theorem Pair.two {l q o v : Nat} {W W' : World} (h : Pair o v W) (hp : Pair l q W) (ho : o ≠ l) (hv : v ≠ q) (ht : Two l q W W') : Pair o v W' := by
  obtain ⟨so, vo, L, m, h1, h2⟩ := h
  obtain ⟨sl, vl, L', m', k1, k2⟩ := hp
  have a1 := row_type h1.row k1.obj (by decide)
  have a2 := row_type h1.row k2.obj (by decide)
  have a3 := row_type h2.row.out k1.obj (by decide)
  have a4 := row_type h2.row.out k2.obj (by decide)
  have e1 := type_ne h1.obj k2.obj (by decide)
  have e2 := type_ne h2.obj k1.obj (by decide)
  refine ⟨so, vo, L, m, ⟨(ht.block o h1.lt ho e1).trans h1.obj, row_keep h1.row (fun k hk hs => ht.block k hs (a1 k hk) (a2 k hk)), h1.few⟩, ⟨(ht.block v h2.lt e2 hv).trans h2.obj, row_keep h2.row.out (fun k hk hs => ht.block k hs (a3 k hk) (a4 k hk)), h2.few⟩⟩

/-- What stands between two calls. -/
structure Sta (w : World) (l q o v : Nat) (W : World) : Prop where
  below : Below w.heap.size w W
  one : Pair l q W
  two : Pair o v W
  lo : l ≠ o
  qv : q ≠ v
  l0 : w.heap.size ≤ l
  q0 : w.heap.size ≤ q
  o0 : w.heap.size ≤ o
  v0 : w.heap.size ≤ v
theorem Sta.next {w : World} {l q o v : Nat} {W W' : World} (h : Sta w l q o v W) (hb : Below W.heap.size W W') : Sta w l q o v W' :=
  ⟨h.below.trans (hb.mono h.below.size), h.one.below hb, h.two.below hb, h.lo, h.qv, h.l0, h.q0, h.o0, h.v0⟩
theorem Sta.swap {w : World} {l q o v : Nat} {W : World} (h : Sta w l q o v W) : Sta w o v l q W := ⟨h.below, h.two, h.one, h.lo.symm, h.qv.symm, h.o0, h.v0, h.l0, h.q0⟩
theorem Sta.act {w : World} {l q o v : Nat} {W W' : World} (h : Sta w l q o v W) (hb : Both l q W W') : Sta w l q o v W' := by
  obtain ⟨sv, v', L, m, k1, k2, kt⟩ := hb
  have h1 := h.l0; have h2 := h.q0
  refine ⟨⟨kt.os.trans h.below.1, kt.tape.trans h.below.2, kt.output.trans h.below.3, Nat.le_trans h.below.size kt.size, fun k hk => (kt.block k (Nat.lt_of_lt_of_le hk h.below.size) (by omega) (by omega)).trans (h.below.block k hk)⟩, ⟨sv, v', L, m, k1, k2⟩, h.two.two h.one h.lo.symm h.qv.symm kt, h.lo, h.qv, h.l0, h.q0, h.o0, h.v0⟩
theorem pair_told {l q : Nat} {W : World} (h : Pair l q W) (a b : Int) : Calls Try.prog 15 #[.pointer (some ⟨l, 0, none⟩), .pointer (some ⟨q, 0, none⟩), .int .i64 a, .int .i64 b] W fun e w' => e = .returned (.bool true) ∧ Below W.heap.size W w' := by
  obtain ⟨sv, v, L, m, h1, h2⟩ := h
  exact told_any l q sv v L m a b W h1 h2
theorem pair_act {l q : Nat} {W : World} (h : Pair l q W) (kd a n : Int) (c : Ch) (ha : a ≤ 9223372036854775807) : Calls Try.prog 14 #[.pointer (some ⟨l, 0, none⟩), .pointer (some ⟨q, 0, none⟩), .agg #[.int .i64 kd, .int .i64 a, .int .i64 n, .int .i64 c.s, .int .i64 c.t, .int .i64 c.k]] W fun e w' => e = .returned (.bool true) ∧ Both l q W w' := by
  obtain ⟨sv, v, L, m, h1, h2⟩ := h
  exact act_any l q sv v L m kd a n c ha W h1 h2
/-- A clone of both sides. -/
theorem pair_clone {l q : Nat} {W : World} (h : Pair l q W) : Calls Try.prog 12 #[.pointer (some ⟨l, 0, none⟩)] W fun e W1 => ∃ l2, e = .returned (.pointer (some ⟨l2, 0, none⟩)) ∧ W.heap.size ≤ l2 ∧ Below W.heap.size W W1 ∧
    Hid (Calls Try.prog 13 #[.pointer (some ⟨q, 0, none⟩)] W1 fun e W2 => ∃ q2, e = .returned (.pointer (some ⟨q2, 0, none⟩)) ∧ W1.heap.size ≤ q2 ∧ Pair l2 q2 W2 ∧ Below W1.heap.size W1 W2) := by
  obtain ⟨sv, v, L, m, h1, h2⟩ := h
  refine (clone_ok l sv L m W h1).mono ?_
  rintro e W1 ⟨l2, s2, rfl, hl, k1, b1, _⟩
  refine ⟨l2, rfl, hl, b1, ?_⟩
  refine (rclone_ok q v L m W1 (h2.below b1)).mono ?_
  rintro e W2 ⟨q2, v2, rfl, hq, k2, b2⟩
  exact ⟨q2, rfl, hq, ⟨s2, v2, L, m, k1.below b2, k2⟩, b2⟩
theorem new_both (n : Int) (c : Ch) : (∃ e : Int, (∀ w, Calls Try.prog 8 #[.int .i64 n, chV c] w fun y w' => y = .returned (.tuple #[.pointer none, .int .i64 e]) ∧ Below w.heap.size w w') ∧ (∀ w, Calls Try.prog 9 #[.int .i64 n, chV c] w fun y w' => y = .returned (.tuple #[.pointer none, .int .i64 e]) ∧ Below w.heap.size w w')) ∨
    (∀ w, Calls Try.prog 8 #[.int .i64 n, chV c] w fun y w1 => ∃ l, y = .returned (.tuple #[.pointer (some ⟨l, 0, none⟩), .int .i64 0]) ∧ w.heap.size ≤ l ∧ Below w.heap.size w w1 ∧
      Hid (Calls Try.prog 9 #[.int .i64 n, chV c] w1 fun y w2 => ∃ q, y = .returned (.tuple #[.pointer (some ⟨q, 0, none⟩), .int .i64 0]) ∧ w1.heap.size ≤ q ∧ Pair l q w2 ∧ Below w1.heap.size w1 w2)) := by
  cases hc : mayC c
  · exact .inl ⟨_, fun w => new_bad n c hc w, fun w => rnew_bad n c hc w⟩
  · by_cases hn : n < 0 ∨ 4096 < n
    · exact .inl ⟨_, fun w => new_out n c hc hn w, fun w => rnew_out n c hc hn w⟩
    · obtain ⟨k, rfl⟩ := Int.eq_ofNat_of_zero_le (show 0 ≤ n by omega)
      refine .inr fun w => ?_
      refine (new_ok k c hc (by omega) w).mono ?_
      rintro e w1 ⟨l, sv, rfl, hl, k1, b1⟩
      refine ⟨l, rfl, hl, b1, ?_⟩
      refine (rnew_ok k c hc (by omega) w1).mono ?_
      rintro e w2 ⟨q, v, rfl, hq, k2, b2⟩
      exact ⟨q, rfl, hq, ⟨sv, v, _, _, k1.below b2, k2⟩, b2⟩
end Go.Proofs.Ytjakmekifpbldaa
