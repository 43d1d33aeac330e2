/-
  What is proved here: an append to a row of the call's own leaves it in its block, or lays it into a new one (no program is named).
-/
import Derived.OwnWalkIn
import Derived.RangeFuncBox
import Derived.Lib.AppendStr
import Derived.Test.YtkhnfmdhdfpdhaaRange
namespace Go.Proofs.Ytkhnfmdhdfpdhaa
open Go.RowKit

theorem run_append_where {P : Program} (w : World) (base : Nat) (t ty e : TypeId) (i : TypeInfo) (z : Value) (size bytes : Nat) (ht : P.underlying t = some (.slice e)) (hi : P.info? e = some i) (hz : i.zero = some z)
    (hsize : i.size = size) (hby : i.bytes = bytes) (hzs : z.cells.size = size) (hsz : 0 < size)
    (v : Value) (n : Nat) (xs : List Value) (hown : w.ownsRow base e size v n xs)
    (a : Addr) (m c : Nat) (news : List Value) (hl : news.length = m * size) (hnews : ∀ j u, news[j]? = some u → w.cell? (a.add j) = some u) (h1 : ∀ u ∈ news, u.oneCell' = true)
    (h63 : n + m ≤ maxLen) (hbytes : (n + m) * bytes ≤ 140737488355328) (hbase : base ≤ w.heap.size) :
    ∃ v' w', (Builtin.append_ #[t, t] ty #[v, .slice (some a) m c]).run P w = .ok v' w' ∧ w'.ownsRow base e size v' (n + m) (xs ++ news) ∧ w.grownBy w' v.ownBlock ∧
      (v'.ownBlock = v.ownBlock ∨ ∀ g, v'.ownBlock = some g → w.heap.size ≤ g) := by
  obtain ⟨v', w', hrun, r1, r2, _⟩ := run_append_own (P := P) w base t ty e i z size bytes ht hi hz hsize hby hzs hsz v n xs hown a m c news hl hnews h1 h63 hbytes hbase
  refine ⟨v', w', hrun, r1, r2, ?_⟩
  rcases hown.2 with ⟨rfl, rfl⟩ | ⟨g, cap, cur, rfl, hbg, hg, hnc, hcm, hcs, htake⟩
  · have hx : xs = [] := List.eq_nil_of_length_eq_zero (by simpa using hown.1)
    subst hx
    obtain ⟨v2, w2, hrun2, q1, _, _⟩ := run_append_own (P := P) w w.heap.size t ty e i z size bytes ht hi hz hsize hby hzs hsz _ 0 [] (World.ownsRow_nil w _ e size) a m c news hl hnews h1 h63 hbytes (Nat.le_refl _)
    rw [hrun] at hrun2
    injection hrun2 with e1 e2
    subst e1 e2
    exact .inr (fun g hg => (q1.lt g hg).1)
  · subst hsize
    subst hby
    have hsmall : n + m ≤ 9223372036854775807 := by simp only [maxLen] at h63; omega
    by_cases hroom : n + m ≤ cap
    · have hfit : n * i.size + news.length ≤ cur.size := by rw [hl, hcs, ← Nat.add_mul]; exact Nat.mul_le_mul_right _ hroom
      have hr := run_append_room (P := P) w t ty e i ht hi g n cap cur hg a m c news hl hnews h1 hroom hfit
      rw [hrun] at hr
      injection hr with e1 e2
      exact .inl (by rw [e1]; rfl)
    · have holds : ∀ j u, xs[j]? = some u → w.cell? ((⟨g, 0, none⟩ : Addr).add j) = some u := hown.cells (g := g) rfl
      have hr := run_append_grow (P := P) w t ty e i z ht hi hz ⟨g, 0, none⟩ n cap xs hown.1 holds a m c news hl hnews (by omega) (by omega) (growslice_fits (by omega) hbytes)
      rw [hrun] at hr
      injection hr with e1 e2
      exact .inr (fun k hk => by rw [e1] at hk; cases hk; exact Nat.le_refl _)

theorem wpListIn_append_where {F : Fence} {n : Nat} {P : Program} (w : World) {ops : Array Oper} {rest : List Oper} {o : Oper} {a : Act} {Q : Exit → Act → World → Prop}
    (hg : o.guard = none) (s x : Operand) (t : TypeId) (hop : o.op = Op.call { callee := Callee.builtin Builtin.append, args := #[s, x], argTypes := #[t, t] })
    (base : Nat) (e : TypeId) (i : TypeInfo) (z : Value) (size bytes : Nat) (h1 : P.underlying t = some (.slice e)) (h2 : P.info? e = some i) (h3 : i.zero = some z) (h4 : i.size = size) (h5 : i.bytes = bytes) (h6 : z.cells.size = size) (h7 : 0 < size)
    (v : Value) (k : Nat) (xs : List Value) (hs : a.eval s = v) (hown : w.ownsRow base e size v k xs) (ad : Addr) (m c : Nat) (news : List Value) (hx : a.eval x = .slice (some ad) m c) (hn : news.length = m * size)
    (hc : ∀ j u, news[j]? = some u → w.cell? (ad.add j) = some u) (h1c : ∀ u ∈ news, u.oneCell' = true) (b1 : k + m ≤ maxLen) (b2 : (k + m) * bytes ≤ 140737488355328) (b3 : base ≤ w.heap.size)
    (hK : ∀ v' w', w'.ownsRow base e size v' (k + m) (xs ++ news) → w.grownBy w' v.ownBlock → (v'.ownBlock = v.ownBlock ∨ ∀ g, v'.ownBlock = some g → w.heap.size ≤ g) → wpListIn F n P ops Q rest (a.put o.dst v') w') :
    wpListIn F n P ops Q (o :: rest) a w := by
  refine wpListIn_plain hg fun K hK' => ?_
  obtain ⟨v', w', hrun, r1, r2, r3⟩ := run_append_where (P := P) w base t o.type e i z size bytes h1 h2 h3 h4 h5 h6 h7 v k xs hown ad m c news hn hc h1c b1 b2 b3
  unfold Oper.wpIn
  refine ⟨?_, ?_⟩
  · simp [Oper.about, hop, resolve, Target.leads, Sem.run_pure]
  · rw [Oper.semAt_plain F _ _ (by rw [hop]; intro c hc'; cases hc')]
    simp [execOp, hop, resolve, invoke, builtin, hs, hx, hrun, Result.andThen]
    exact hK' _ _ (hK v' w' r1 r2 r3)

theorem ownsRow_turns {W W' : World} {X : Nat → Prop} {base : Nat} {e : TypeId} {size : Nat} {v : Value} {n : Nat} {xs : List Value} (h : W.ownsRow base e size v n xs) (ht : Turns X W W') (hX : ∀ g, v.ownBlock = some g → ¬ X g) : W'.ownsRow base e size v n xs := by
  refine ⟨h.1, ?_⟩
  rcases h.2 with hn | ⟨g, cap, cur, rfl, hb, hg, r⟩
  · exact .inl hn
  · exact .inr ⟨g, cap, cur, rfl, hb, (ht.block g (Array.getElem?_eq_some_iff.1 hg).1 (hX g rfl)).trans hg, r⟩

theorem ownsRow_base {W : World} {base base' : Nat} {e : TypeId} {size : Nat} {v : Value} {n : Nat} {xs : List Value} (h : W.ownsRow base e size v n xs) (hb : base' ≤ base) : W.ownsRow base' e size v n xs := by
  refine ⟨h.1, ?_⟩
  rcases h.2 with hn | ⟨g, cap, cur, rfl, hb', r⟩
  · exact .inl hn
  · exact .inr ⟨g, cap, cur, rfl, by omega, r⟩

/-- A variable of the loop's own that holds a row of the loop's own. -/
theorem steady_row {w₁ : World} {own : Nat → Prop} {B : Nat} (hB : B < w₁.heap.size) (base : Nat) (t e : TypeId) (sz : Nat) (k : Nat → Nat) (xs : Nat → List Value) :
    Steady (fun i X W => Base w₁ own X W ∧ ∃ v, W.heap[B]? = some (.cells #[v] t) ∧ W.ownsRow base e sz v (k i) (xs i) ∧ ∀ g, v.ownBlock = some g → ¬ X g) :=
  fun _ X X' W W' hs ht hx => by
    obtain ⟨hb, v, hv, hr, hg⟩ := hs
    refine ⟨hb.step ht hx, v, (hb.keep ht hB).trans hv, ownsRow_turns hr ht hg, fun g h h' => ?_⟩
    have := (hr.lt g h).2
    exact (hx g h').elim (hg g h) (fun h => by omega)

/-- A step of 'out = append(out, x)' in a round: the box, the row, what is private. -/
theorem append_step {W w2 w₁ : World} {X : Nat → Prop} {B : Nat} {t e : TypeId} {sz : Nat} {v v' : Value} {k m : Nat} {xs ys : List Value} {tmp : Obj} (hb : Base w₁ (fun k => k = B) X W) (hB : B < w₁.heap.size) (hv : W.heap[B]? = some (.cells #[v] t)) (hte : t ≠ e)
    (hrow : W.ownsRow w₁.heap.size e sz v k xs) (hg : ∀ g, v.ownBlock = some g → ¬ X g) (hown' : w2.ownsRow w₁.heap.size e sz v' m ys) (hgrow : (W.alloc tmp).grownBy w2 v.ownBlock)
    (hwh : v'.ownBlock = v.ownBlock ∨ ∀ g, v'.ownBlock = some g → (W.alloc tmp).heap.size ≤ g) :
    Boxed w2 B t v ∧ Keeps X W (w2.setCell ⟨B, 0, none⟩ v') ∧ Base w₁ (fun k => k = B) X (w2.setCell ⟨B, 0, none⟩ v') ∧ (w2.setCell ⟨B, 0, none⟩ v').heap[B]? = some (.cells #[v'] t) ∧ (w2.setCell ⟨B, 0, none⟩ v').ownsRow w₁.heap.size e sz v' m ys ∧ ∀ g, v'.ownBlock = some g → ¬ X g := by
  have hv0 : Boxed W B t v := hv
  have hne : some B ≠ v.ownBlock := hv0.not_row hte hrow
  have hv1 : Boxed w2 B t v := (hv0.alloc tmp).kept hgrow hne
  have hs1 := hb.turns.size
  have hs2 := hgrow.size
  have hblk : ∀ k, k < W.heap.size → k ≠ B → some k ≠ v.ownBlock → (w2.setCell ⟨B, 0, none⟩ v').heap[k]? = W.heap[k]? := fun k hk hkB hkv =>
    (Below.heap_setCell _ _ _ k hkB).trans ((hgrow.block k (by simp; omega) hkv).trans (Below.heap_alloc _ _ _ hk))
  simp only [World.size_alloc] at hs2 hwh
  refine ⟨hv1, ⟨by simp; omega, fun k hx hk => hblk k hk (fun e => by have := (hb.young k hx).1; omega) (fun e => hg k e.symm hx)⟩, ⟨⟨?_, ?_, ?_, by simp; omega, fun k hk ho => ?_⟩, fun k hk => by have := hb.young k hk; simp; omega⟩, Boxed.set v' hv1, hown'.kept (grownBy_setCell' w2 B v') (.inr (hv1.not_row hte hown').symm), fun g h hx => ?_⟩
  · exact hgrow.os.trans hb.turns.os
  · exact hgrow.tape.trans hb.turns.tape
  · exact hgrow.output.trans hb.turns.output
  · exact (hblk k (by omega) ho (fun e => by have := (hrow.lt k e.symm).1; omega)).trans (hb.turns.block k hk ho)
  · rcases hwh with h' | h'
    · exact hg g (h' ▸ h) hx
    · have := h' g h; have := (hb.young g hx).2; omega

end Go.Proofs.Ytkhnfmdhdfpdhaa
