/-
  What is proved here: an append to a row of the call's own leaves it in its block, or lays it into a new one (no program is named).
  What is proved here: an append of any list, a nil one too, to a row of the call's own (no program is named).
  What is proved here: lists of records, in memory (no program is named).
  What is proved here: whether all numbers keep their bounds; the bounds of a paragraph's properties.
  What is proved here: whether spans are as much as so many bytes, and look as characters may; whether a label or a mark may stand.
  What is proved here: whether a label or a mark may stand; whether a text has a Field; how many Refs it has.
-/
import Derived.OwnWalkIn
import Derived.RangeFuncBox
import Derived.Lib.AppendStr
import Derived.Test.YtkhnfmdhdfpdhaaE1
import Derived.OwnWalk
import Derived.Deep.AppendSrc
import Derived.Below
import Derived.Lib.Builder
import Derived.WalkKit
import Derived.WalkSpells
import Derived.Shelf.Abstract
import Derived.Lib.Bytealg
namespace Go.Proofs.Ytkhnfmdhdfpdhaa
open Go.RowKit

theorem run_append_where {P : Program} (w : World) (base : Nat) (t ty e : TypeId) (i : TypeInfo) (z : Value) (size bytes : Nat) (ht : P.underlying t = some (.slice e)) (hi : P.info? e = some i) (hz : i.zero = some z)
    (hsize : i.size = size) (hby : i.bytes = bytes) (hzs : z.cells.size = size) (hsz : 0 < size)
    (v : Value) (n : Nat) (xs : List Value) (hown : w.ownsRow base e size v n xs)
    (a : Addr) (m c : Nat) (news : List Value) (hl : news.length = m * size) (hnews : ∀ j u, news[j]? = some u → w.cell? (a.add j) = some u) (h1 : ∀ u ∈ news, u.oneCell' = true)
    (h63 : n + m ≤ maxLen) (hbytes : (n + m) * bytes ≤ 140737488355328) (hbase : base ≤ w.heap.size) :
    ∃ v' w', (Builtin.append_ #[t, t] ty #[v, .slice (some a) m c]).run P w = .ok v' w' ∧ w'.ownsRow base e size v' (n + m) (xs ++ news) ∧ w.grownBy w' v.ownBlock ∧
      (v'.ownBlock = v.ownBlock ∨ ∀ g, v'.ownBlock = some g → w.heap.size ≤ g) := by
  obtain ⟨v', w', hrun, r1, r2, _⟩ := run_append_own (P := P) w base t ty e i z size bytes ht hi hz hsize hby hzs hsz v n xs hown a m c news hl hnews h1 h63 hbytes hbase
  refine ⟨v', w', hrun, r1, r2, ?_⟩
  rcases hown.2 with ⟨rfl, rfl⟩ | ⟨g, cap, cur, rfl, hbg, hg, hnc, hcm, hcs, htake⟩
  · have hx : xs = [] := List.eq_nil_of_length_eq_zero (by simpa using hown.1)
    subst hx
    obtain ⟨v2, w2, hrun2, q1, _, _⟩ := run_append_own (P := P) w w.heap.size t ty e i z size bytes ht hi hz hsize hby hzs hsz _ 0 [] (World.ownsRow_nil w _ e size) a m c news hl hnews h1 h63 hbytes (Nat.le_refl _)
    rw [hrun] at hrun2
    injection hrun2 with e1 e2
    subst e1 e2
    exact .inr (fun g hg => (q1.lt g hg).1)
  · subst hsize
    subst hby
    have hsmall : n + m ≤ 9223372036854775807 := by simp only [maxLen] at h63; omega
    by_cases hroom : n + m ≤ cap
    · have hfit : n * i.size + news.length ≤ cur.size := by rw [hl, hcs, ← Nat.add_mul]; exact Nat.mul_le_mul_right _ hroom
      have hr := run_append_room (P := P) w t ty e i ht hi g n cap cur hg a m c news hl hnews h1 hroom hfit
      rw [hrun] at hr
      injection hr with e1 e2
      exact .inl (by rw [e1]; rfl)
    · have holds : ∀ j u, xs[j]? = some u → w.cell? ((⟨g, 0, none⟩ : Addr).add j) = some u := hown.cells (g := g) rfl
      have hr := run_append_grow (P := P) w t ty e i z ht hi hz ⟨g, 0, none⟩ n cap xs hown.1 holds a m c news hl hnews (by omega) (by omega) (growslice_fits (by omega) hbytes)
      rw [hrun] at hr
      injection hr with e1 e2
      exact .inr (fun k hk => by rw [e1] at hk; cases hk; exact Nat.le_refl _)

theorem wpListIn_append_where {F : Fence} {n : Nat} {P : Program} (w : World) {ops : Array Oper} {rest : List Oper} {o : Oper} {a : Act} {Q : Exit → Act → World → Prop}
    (hg : o.guard = none) (s x : Operand) (t : TypeId) (hop : o.op = Op.call { callee := Callee.builtin Builtin.append, args := #[s, x], argTypes := #[t, t] })
    (base : Nat) (e : TypeId) (i : TypeInfo) (z : Value) (size bytes : Nat) (h1 : P.underlying t = some (.slice e)) (h2 : P.info? e = some i) (h3 : i.zero = some z) (h4 : i.size = size) (h5 : i.bytes = bytes) (h6 : z.cells.size = size) (h7 : 0 < size)
    (v : Value) (k : Nat) (xs : List Value) (hs : a.eval s = v) (hown : w.ownsRow base e size v k xs) (ad : Addr) (m c : Nat) (news : List Value) (hx : a.eval x = .slice (some ad) m c) (hn : news.length = m * size)
    (hc : ∀ j u, news[j]? = some u → w.cell? (ad.add j) = some u) (h1c : ∀ u ∈ news, u.oneCell' = true) (b1 : k + m ≤ maxLen) (b2 : (k + m) * bytes ≤ 140737488355328) (b3 : base ≤ w.heap.size)
    (hK : ∀ v' w', w'.ownsRow base e size v' (k + m) (xs ++ news) → w.grownBy w' v.ownBlock → (v'.ownBlock = v.ownBlock ∨ ∀ g, v'.ownBlock = some g → w.heap.size ≤ g) → wpListIn F n P ops Q rest (a.put o.dst v') w') :
    wpListIn F n P ops Q (o :: rest) a w := by
  refine wpListIn_plain hg fun K hK' => ?_
  obtain ⟨v', w', hrun, r1, r2, r3⟩ := run_append_where (P := P) w base t o.type e i z size bytes h1 h2 h3 h4 h5 h6 h7 v k xs hown ad m c news hn hc h1c b1 b2 b3
  unfold Oper.wpIn
  refine ⟨?_, ?_⟩
  · simp [Oper.about, hop, resolve, Target.leads, Sem.run_pure]
  · rw [Oper.semAt_plain F _ _ (by rw [hop]; intro c hc'; cases hc')]
    simp [execOp, hop, resolve, invoke, builtin, hs, hx, hrun, Result.andThen]
    exact hK' _ _ (hK v' w' r1 r2 r3)

theorem ownsRow_turns {W W' : World} {X : Nat → Prop} {base : Nat} {e : TypeId} {size : Nat} {v : Value} {n : Nat} {xs : List Value} (h : W.ownsRow base e size v n xs) (ht : Turns X W W') (hX : ∀ g, v.ownBlock = some g → ¬ X g) : W'.ownsRow base e size v n xs := by
  refine ⟨h.1, ?_⟩
  rcases h.2 with hn | ⟨g, cap, cur, rfl, hb, hg, r⟩
  · exact .inl hn
  · exact .inr ⟨g, cap, cur, rfl, hb, (ht.block g (Array.getElem?_eq_some_iff.1 hg).1 (hX g rfl)).trans hg, r⟩

theorem ownsRow_base {W : World} {base base' : Nat} {e : TypeId} {size : Nat} {v : Value} {n : Nat} {xs : List Value} (h : W.ownsRow base e size v n xs) (hb : base' ≤ base) : W.ownsRow base' e size v n xs := by
  refine ⟨h.1, ?_⟩
  rcases h.2 with hn | ⟨g, cap, cur, rfl, hb', r⟩
  · exact .inl hn
  · exact .inr ⟨g, cap, cur, rfl, by omega, r⟩

/-- A variable of the loop's own that holds a row of the loop's own. -/
theorem steady_row {w₁ : World} {own : Nat → Prop} {B : Nat} (hB : B < w₁.heap.size) (base : Nat) (t e : TypeId) (sz : Nat) (k : Nat → Nat) (xs : Nat → List Value) :
    Steady (fun i X W => Base w₁ own X W ∧ ∃ v, W.heap[B]? = some (.cells #[v] t) ∧ W.ownsRow base e sz v (k i) (xs i) ∧ ∀ g, v.ownBlock = some g → ¬ X g) :=
  fun _ X X' W W' hs ht hx => by
    obtain ⟨hb, v, hv, hr, hg⟩ := hs
    refine ⟨hb.step ht hx, v, (hb.keep ht hB).trans hv, ownsRow_turns hr ht hg, fun g h h' => ?_⟩
    have := (hr.lt g h).2
    exact (hx g h').elim (hg g h) (fun h => by omega)

/-- A step of 'out = append(out, x)' in a round: the box, the row, what is private. -/
theorem append_step {W w2 w₁ : World} {X : Nat → Prop} {B : Nat} {t e : TypeId} {sz : Nat} {v v' : Value} {k m : Nat} {xs ys : List Value} {tmp : Obj} (hb : Base w₁ (fun k => k = B) X W) (hB : B < w₁.heap.size) (hv : W.heap[B]? = some (.cells #[v] t)) (hte : t ≠ e)
    (hrow : W.ownsRow w₁.heap.size e sz v k xs) (hg : ∀ g, v.ownBlock = some g → ¬ X g) (hown' : w2.ownsRow w₁.heap.size e sz v' m ys) (hgrow : (W.alloc tmp).grownBy w2 v.ownBlock)
    (hwh : v'.ownBlock = v.ownBlock ∨ ∀ g, v'.ownBlock = some g → (W.alloc tmp).heap.size ≤ g) :
    Boxed w2 B t v ∧ Keeps X W (w2.setCell ⟨B, 0, none⟩ v') ∧ Base w₁ (fun k => k = B) X (w2.setCell ⟨B, 0, none⟩ v') ∧ (w2.setCell ⟨B, 0, none⟩ v').heap[B]? = some (.cells #[v'] t) ∧ (w2.setCell ⟨B, 0, none⟩ v').ownsRow w₁.heap.size e sz v' m ys ∧ ∀ g, v'.ownBlock = some g → ¬ X g := by
  have hv0 : Boxed W B t v := hv
  have hne : some B ≠ v.ownBlock := hv0.not_row hte hrow
  have hv1 : Boxed w2 B t v := (hv0.alloc tmp).kept hgrow hne
  have hs1 := hb.turns.size
  have hs2 := hgrow.size
  have hblk : ∀ k, k < W.heap.size → k ≠ B → some k ≠ v.ownBlock → (w2.setCell ⟨B, 0, none⟩ v').heap[k]? = W.heap[k]? := fun k hk hkB hkv =>
    (Below.heap_setCell _ _ _ k hkB).trans ((hgrow.block k (by simp; omega) hkv).trans (Below.heap_alloc _ _ _ hk))
  simp only [World.size_alloc] at hs2 hwh
  refine ⟨hv1, ⟨by simp; omega, fun k hx hk => hblk k hk (fun e => by have := (hb.young k hx).1; omega) (fun e => hg k e.symm hx)⟩, ⟨⟨?_, ?_, ?_, by simp; omega, fun k hk ho => ?_⟩, fun k hk => by have := hb.young k hk; simp; omega⟩, Boxed.set v' hv1, hown'.kept (grownBy_setCell' w2 B v') (.inr (hv1.not_row hte hown').symm), fun g h hx => ?_⟩
  · exact hgrow.os.trans hb.turns.os
  · exact hgrow.tape.trans hb.turns.tape
  · exact hgrow.output.trans hb.turns.output
  · exact (hblk k (by omega) ho (fun e => by have := (hrow.lt k e.symm).1; omega)).trans (hb.turns.block k hk ho)
  · rcases hwh with h' | h'
    · exact hg g (h' ▸ h) hx
    · have := h' g h; have := (hb.young g hx).2; omega

end Go.Proofs.Ytkhnfmdhdfpdhaa

namespace Go.Proofs.Ytkhnfmdhdfpdhaa
open Go.RowKit

/-- The cells of a list that is appended. -/
def Srcs (W : World) (size : Nat) (x : Value) (m : Nat) (news : List Value) : Prop :=
  news.length = m * size ∧ (∀ u ∈ news, u.oneCell' = true) ∧ ((m = 0 ∧ ∃ c, x = .slice none 0 c) ∨ ∃ a c, x = .slice (some a) m c ∧ ∀ j u, news[j]? = some u → W.cell? (a.add j) = some u)

theorem run_append_any {P : Program} (w : World) (base : Nat) (t ty e : TypeId) (i : TypeInfo) (z : Value) (size bytes : Nat) (ht : P.underlying t = some (.slice e)) (hi : P.info? e = some i) (hz : i.zero = some z)
    (hsize : i.size = size) (hby : i.bytes = bytes) (hzs : z.cells.size = size) (hsz : 0 < size)
    (v : Value) (n : Nat) (xs : List Value) (hown : w.ownsRow base e size v n xs) (x : Value) (m : Nat) (news : List Value) (hx : Srcs w size x m news)
    (h63 : n + m ≤ maxLen) (hbytes : (n + m) * bytes ≤ 140737488355328) (hbase : base ≤ w.heap.size) :
    ∃ v' w', (Builtin.append_ #[t, t] ty #[v, x]).run P w = .ok v' w' ∧ w'.ownsRow base e size v' (n + m) (xs ++ news) ∧ w.grownBy w' v.ownBlock := by
  obtain ⟨hl, h1, hx⟩ := hx
  rcases hx with ⟨rfl, c, rfl⟩ | ⟨a, c, rfl, hc⟩
  · have hn : news = [] := List.eq_nil_of_length_eq_zero (by simpa using hl)
    subst hn
    refine ⟨v, w, ?_, by simpa using hown, World.grownBy.refl _ _⟩
    rcases hown.2 with ⟨rfl, rfl⟩ | ⟨g, cap, cur, rfl, hbg, hg, hnc, hcm, hcs, htake⟩
    · simp [Builtin.append_, run_underlying ht, sizeOf, typeInfo, hi, Builtin.lenOf, run_firstCells_none]
    · have := run_append_room_src (P := P) w t t ty e i ht hi g 0 n cap (.slice none 0 c) 0 [] (Src.ofNil w ht c) (by omega) (by simp) (by simp)
      rw [this]
      simp [World.setCells]
  · obtain ⟨v', w', r0, r1, r2, _⟩ := run_append_own (P := P) w base t ty e i z size bytes ht hi hz hsize hby hzs hsz v n xs hown a m c news hl hc h1 h63 hbytes hbase
    exact ⟨v', w', r0, r1, r2⟩

theorem wpList_append_any {P : Program} (w : World) {ops : Array Oper} {rest : List Oper} {o : Oper} {a : Act} {Q : Exit → Act → World → Prop} (hgd : o.guard = none) (sl x : Operand) (t : TypeId)
    (ho : o.op = .call { callee := .builtin .append, args := #[sl, x], argTypes := #[t, t] })
    (base : Nat) (e : TypeId) (i : TypeInfo) (z : Value) (size bytes : Nat) (ht : P.underlying t = some (.slice e)) (hi : P.info? e = some i) (hz : i.zero = some z) (hsize : i.size = size) (hby : i.bytes = bytes) (hzs : z.cells.size = size) (hsz : 0 < size)
    (v : Value) (n : Nat) (xs : List Value) (hs : a.eval sl = v) (hown : w.ownsRow base e size v n xs) (m : Nat) (news : List Value) (u : Value) (hxe : a.eval x = u) (hx : Srcs w size u m news)
    (h63 : n + m ≤ maxLen) (hbytes : (n + m) * bytes ≤ 140737488355328) (hbase : base ≤ w.heap.size)
    (h : ∀ v' w', w'.ownsRow base e size v' (n + m) (xs ++ news) → w.grownBy w' v.ownBlock → wpList P ops Q rest (a.put o.dst v') w') : wpList P ops Q (o :: rest) a w := by
  refine wpList_plain hgd fun K hK => ?_
  obtain ⟨v', w', hr, h2, h3⟩ := run_append_any (P := P) w base t o.type e i z size bytes ht hi hz hsize hby hzs hsz v n xs hown u m news hx h63 hbytes hbase
  unfold Oper.wp execOp
  simp only [ho, resolve, invoke, builtin, Sem.run_bind, Sem.run_pure, Result.andThen_ok, List.map_toArray, List.map_cons, List.map_nil, hs, hxe, hr]
  exact hK _ _ (h v' w' h2 h3)

theorem below_grown {B base : Nat} {w w1 w2 : World} {e : TypeId} {size n : Nat} {v : Value} {xs : List Value} (h : Below B w w1) (hrow : w1.ownsRow base e size v n xs) (hBw : B ≤ w.heap.size) (hB : B ≤ base) (hg : w1.grownBy w2 v.ownBlock) : Below B w w2 := by
  refine ⟨hg.os.trans h.1, hg.tape.trans h.2, hg.output.trans h.3, Nat.le_trans h.size hg.size, fun k hk => ?_⟩
  exact (hg.block k (by have := h.size; omega) (fun he => by have := (hrow.lt k he.symm).1; omega)).trans (h.block k hk)

theorem ownsRow_below {W W' : World} {base : Nat} {e : TypeId} {size : Nat} {v : Value} {n : Nat} {xs : List Value} (h : W.ownsRow base e size v n xs) (hb : Below W.heap.size W W') : W'.ownsRow base e size v n xs := by
  refine ⟨h.1, ?_⟩
  rcases h.2 with hn | ⟨g, cap, cur, rfl, hb', hg, r⟩
  · exact .inl hn
  · exact .inr ⟨g, cap, cur, rfl, hb', (hb.block g (Array.getElem?_eq_some_iff.1 hg).1).trans hg, r⟩


theorem addr_add0 (b j : Nat) : (⟨b, 0, none⟩ : Addr).add j = ⟨b, j, none⟩ := by
  unfold Addr.add; split
  · rename_i h; rw [h]
  · simp
theorem addr_add (b o j : Nat) : (⟨b, o, none⟩ : Addr).add j = ⟨b, o + j, none⟩ := by
  unfold Addr.add; split
  · rename_i h; rw [h]; rfl
  · simp

end Go.Proofs.Ytkhnfmdhdfpdhaa

namespace Go.Proofs.Ytkhnfmdhdfpdhaa
open Go.RowKit Go.Shelf

theorem fm_len {α : Type} {k : Nat} {f : α → List Value} (hf : ∀ a, (f a).length = k) (l : List α) : (l.flatMap f).length = l.length * k := by
  induction l with
  | nil => simp
  | cons p r ih => rw [List.flatMap_cons, List.length_append, ih, hf, List.length_cons, Nat.succ_mul]; omega
theorem fm_get {α : Type} {k : Nat} {f : α → List Value} (hf : ∀ a, (f a).length = k) (ps : List α) {i : Nat} (h : i < ps.length) (j : Nat) (hj : j < k) : (ps.flatMap f)[i * k + j]? = (f ps[i])[j]? := by
  have hs : ps = ps.take i ++ (ps[i] :: ps.drop (i + 1)) := by simp
  conv => lhs; rw [hs]
  have hl : ((ps.take i).flatMap f).length = i * k := by rw [fm_len hf, List.length_take, Nat.min_eq_left (by omega)]
  rw [List.flatMap_append, List.flatMap_cons, List.getElem?_append_right (by omega), hl, List.getElem?_append_left (by rw [hf]; omega)]
  congr 1; omega
/-- A list of records of k cells, in memory. -/
structure RecAt {α : Type} (k : Nat) (f : α → List Value) (W : World) (v : Value) (rs : List α) : Prop where
  ex : ∃ a cap, v = .slice a rs.length cap ∧ (rs = [] ∨ ∃ b o, a = some ⟨b, o, none⟩ ∧ b < W.heap.size ∧ ∀ (i : Nat) (h : i < rs.length) (j : Nat) (u : Value), (f rs[i])[j]? = some u → W.cell? ⟨b, o + i * k + j, none⟩ = some u)
  le : ∀ a n c, v = .slice a n c → n ≤ c
theorem RecAt.below {α : Type} {k : Nat} {f : α → List Value} {W W' : World} {n : Nat} {v : Value} {rs : List α} (h : RecAt k f W v rs) (hb : Below n W W') (hn : W.heap.size ≤ n) : RecAt k f W' v rs := by
  have hle := h.le
  obtain ⟨a, cap, rfl, h2⟩ := h.ex
  refine ⟨⟨a, cap, rfl, ?_⟩, hle⟩
  rcases h2 with h2 | ⟨b, o, rfl, hlt, hc⟩
  · exact .inl h2
  · exact .inr ⟨b, o, rfl, Nat.lt_of_lt_of_le hlt hb.size, fun i hi j u hu => (hb.cell (Nat.lt_of_lt_of_le hlt hn)).trans (hc i hi j u hu)⟩
theorem rec_new {α : Type} {k : Nat} {f : α → List Value} (hf : ∀ a, (f a).length = k) (w : World) (e : TypeId) (rs : List α) : RecAt k f (w.alloc (.cells (rs.flatMap f).toArray e)) (.slice (some ⟨w.heap.size, 0, none⟩) rs.length rs.length) rs := by
  refine ⟨⟨_, _, rfl, .inr ⟨_, 0, rfl, by simp, fun i hi j u hu => ?_⟩⟩, fun a n c e => by cases e; exact Nat.le_refl _⟩
  have hj : j < k := by rw [← hf rs[i]]; exact (List.getElem?_eq_some_iff.1 hu).1
  rw [Lib.cell_of_heap (World.alloc_heap_new w _), Nat.zero_add]
  have := fm_get hf rs hi j hj
  rw [hu] at this
  simpa using this
end Go.Proofs.Ytkhnfmdhdfpdhaa

namespace Go.Proofs.Ytkhnfmdhdfpdhaa
open Go.RowKit Go.Shelf

/-- A number, and between which ones it must lie. -/
abbrev Bd := Int × Int × Int
def bdL (r : Bd) : List Value := [.int .i64 r.1, .int .i64 r.2.1, .int .i64 r.2.2]
theorem bdL_len (r : Bd) : (bdL r).length = 3 := rfl
def bdB (r : Bd) : Bool := decide (r.2.1 ≤ r.1 ∧ r.1 ≤ r.2.2)
def keepB (l : List Bd) : Bool := l.all bdB

set_option maxRecDepth 100000 in
set_option maxHeartbeats 1000000 in
theorem keep_any (v : Value) (l : List Bd) (hl : l.length ≤ 100) (w : World) (hS : RecAt 3 bdL w v l) :
    Calls Try.prog 87 #[v] w fun e w' => e = .returned (.bool (keepB l)) ∧ Below w.heap.size w w' := by
  obtain ⟨a, cap, rfl, h2⟩ := hS.ex
  clear hS
  have hY : Hid (∀ k (hk : k < l.length), bdB l[k] = false → keepB l = false) := fun k hk e => List.all_eq_false.2 ⟨l[k], List.getElem_mem hk, by simp [e]⟩
  have hN : Hid ((∀ k (hk : k < l.length), bdB l[k] = true) → keepB l = true) := fun h => List.all_eq_true.2 fun b hb => by
    obtain ⟨k, hk, rfl⟩ := List.getElem_of_mem hb
    exact h k hk
  generalize keepB l = r at hY hN ⊢
  go_enter Try.func87, Try.ntmps87
  go_wp2
  go_loopw [7] (fun i wr => ∃ k : Nat, k ≤ l.length ∧ i = .int .i64 k ∧ Below w.heap.size w wr ∧ Hid (∀ j (hj : j < l.length), j < k → bdB l[j] = true)) (fun i _ => l.length - (intOf i).toNat)
  case atStart => exact ⟨0, by omega, rfl, Below.refl _ _, fun j _ hj => by omega⟩
  case round =>
    obtain ⟨k, hk, rfl, hb, hall⟩ := hrel
    by_cases hlt : k < l.length
    · rcases h2 with h2 | ⟨b, o, rfl, hbl, hc⟩
      · rw [h2] at hlt; simp at hlt
      · have c0 : wr.cell? ⟨b, o + k * 3, none⟩ = some (.int .i64 l[k].1) := (hb.cell hbl).trans (hc k hlt 0 _ rfl)
        have c1 : wr.cell? ⟨b, o + k * 3 + 1, none⟩ = some (.int .i64 l[k].2.1) := (hb.cell hbl).trans (hc k hlt 1 _ rfl)
        have c2 : wr.cell? ⟨b, o + k * 3 + 2, none⟩ = some (.int .i64 l[k].2.2) := (hb.cell hbl).trans (hc k hlt 2 _ rfl)
        have hlt' : (k : Int) < l.length := by omega
        have hbb : Hid (bdB l[k] = decide (l[k].2.1 ≤ l[k].1 ∧ l[k].1 ≤ l[k].2.2)) := rfl
        have hyes : Hid (bdB l[k] = true → ∀ j (hj : j < l.length), j < k + 1 → bdB l[j] = true) := fun hv j hj hjk => by
            by_cases h : j < k
            · exact hall.out j hj h
            · obtain rfl : j = k := by omega
              exact hv
        have hno : Hid (bdB l[k] = false → r = false) := hY.out k hlt
        clear hY hN hall hc
        generalize l[k].1 = x0 at *
        generalize l[k].2.1 = x1 at *
        generalize l[k].2.2 = x2 at *
        by_cases d1 : x0 < x1
        · have hn := hno.out (hbb.out.trans (decide_eq_false (by omega)))
          subst hn
          clear hyes hno hbb
          go_wp2_with fail
          go_ret
          exact ⟨rfl, hb.alloc hb.size _⟩
        · by_cases d2 : x2 < x0
          · have hn := hno.out (hbb.out.trans (decide_eq_false (by omega)))
            subst hn
            clear hyes hno hbb
            go_wp2_with fail
            go_ret
            exact ⟨rfl, hb.alloc hb.size _⟩
          · have hy : Hid (∀ j (hj : j < l.length), j < k + 1 → bdB l[j] = true) := hyes.out (hbb.out.trans (decide_eq_true (by omega)))
            clear hyes hno hbb
            go_wp2_with fail
            go_roundw
            case rel => exact ⟨k + 1, by omega, by simp, hb.alloc hb.size _, hy⟩
            case measure => simp [intOf]; omega
    · have hn := hN.out (fun j hj => hall.out j hj (by omega))
      have hge : ¬ (k : Int) < l.length := by omega
      clear hY hN hall h2
      subst hn
      go_wp2_with fail
      go_ret
      exact ⟨rfl, hb⟩

/-- A paragraph's properties. -/
structure Pr where
  p0 : Int
  p1 : Int
  p2 : Int
  p3 : Int
  p4 : Int
  p5 : Int
  p6 : Int
  p7 : Int
  p8 : Int
  p9 : Int
  p10 : Int
  p11 : Int
  p12 : Int
  p13 : Int
  p14 : Int
  p15 : Int
  p16 : Int
def prL (p : Pr) : List Value := [.int .i64 p.p0, .int .i64 p.p1, .int .i64 p.p2, .int .i64 p.p3, .int .i64 p.p4, .int .i64 p.p5, .int .i64 p.p6, .int .i64 p.p7, .int .i64 p.p8, .int .i64 p.p9, .int .i64 p.p10, .int .i64 p.p11, .int .i64 p.p12, .int .i64 p.p13, .int .i64 p.p14, .int .i64 p.p15, .int .i64 p.p16]
def prB (p : Pr) : List Bd := [(p.p0, 1, 64), (p.p1, 1, 255), (p.p2, 0, 3), (p.p3, 0, 255), (p.p4, 0, 255), (p.p5, 0, 255), (p.p6, 0, 255), (p.p7, 0, 255), (p.p8, 0, 1), (p.p9, 0, 1), (p.p10, 1, 4), (p.p11, 1, 4), (p.p12, 0, 1), (p.p13, 0, 1), (p.p14, 0, 4), (p.p15, 0, 8), (p.p16, 0, 3)]

end Go.Proofs.Ytkhnfmdhdfpdhaa

namespace Go.Proofs.Ytkhnfmdhdfpdhaa
open Go.RowKit Go.Shelf

/-- A span. -/
structure Sp where
  n : Int
  s : Int
  t : Int
  k : Int
def spL (r : Sp) : List Value := [.int .i64 r.n, .int .i64 r.s, .int .i64 r.t, .int .i64 r.k]
/-- May a look be? -/
def chB (r : Sp) : Bool := decide ((0 ≤ r.s ∧ r.s ≤ 64) ∧ (0 ≤ r.t ∧ r.t ≤ 15) ∧ (0 ≤ r.k ∧ r.k ≤ 1))
/-- May spans be, of so many bytes? -/
def spB : List Sp → Int → Bool
  | [], n => decide (n = 0)
  | r :: l, n => if 1 ≤ r.n ∧ r.n ≤ n ∧ chB r = true then spB l (n - r.n) else false
theorem spB_step {l : List Sp} {k : Nat} (h : k < l.length) {n : Int} (h1 : 1 ≤ l[k].n ∧ l[k].n ≤ n ∧ chB l[k] = true) : spB (l.drop k) n = spB (l.drop (k + 1)) (n - l[k].n) := by
  rw [List.drop_eq_getElem_cons h, spB, if_pos h1]
theorem spB_no {l : List Sp} {k : Nat} (h : k < l.length) {n : Int} (h1 : ¬ (1 ≤ l[k].n ∧ l[k].n ≤ n ∧ chB l[k] = true)) : spB (l.drop k) n = false := by
  rw [List.drop_eq_getElem_cons h, spB, if_neg h1]
theorem spB_end (l : List Sp) (n : Int) : spB (l.drop l.length) n = decide (n = 0) := by simp [spB]

def sp4 (r : Sp) (n : Int) : List Bd := [(r.n, 1, n), (r.s, 0, 64), (r.t, 0, 15), (r.k, 0, 1)]
theorem sp4_keep (r : Sp) (n : Int) : keepB (sp4 r n) = decide (1 ≤ r.n ∧ r.n ≤ n ∧ chB r = true) := by
  unfold keepB sp4 bdB chB
  rw [Bool.eq_iff_iff]
  simp only [List.all_cons, List.all_nil, Bool.and_true, Bool.and_eq_true, decide_eq_true_eq]
  constructor
  · rintro ⟨⟨a, b⟩, c, d, e⟩; exact ⟨a, b, c, d, e⟩
  · rintro ⟨a, b, c, d, e⟩; exact ⟨⟨a, b⟩, c, d, e⟩

set_option maxRecDepth 100000 in
set_option maxHeartbeats 2000000 in
theorem maySpan_any (v : Value) (l : List Sp) (n : Nat) (hn : n ≤ 4096) (hl : l.length ≤ 9223372036854775807) (w : World) (hS : RecAt 4 spL w v l) :
    Calls Try.prog 86 #[v, .int .i64 n] w fun e w' => e = .returned (.bool (spB l n)) ∧ Below w.heap.size w w' := by
  obtain ⟨a, cap, rfl, h2⟩ := hS.ex
  clear hS
  have hr : Hid (∀ (W : World) (m : Nat) (r : Sp) (x : Int), W.heap.size = m → Calls Try.prog 87 #[.slice (some ⟨m, 0, none⟩) 4 4] (W.alloc (.cells #[.int .i64 r.n, .int .i64 1, .int .i64 x, .int .i64 r.s, .int .i64 0, .int .i64 64, .int .i64 r.t, .int .i64 0, .int .i64 15, .int .i64 r.k, .int .i64 0, .int .i64 1] 152)) fun e w' => e = .returned (.bool (decide (1 ≤ r.n ∧ r.n ≤ x ∧ chB r = true))) ∧ Below W.heap.size W w') := fun W m r x hm => by
    subst hm
    have h := keep_any _ (sp4 r x) (by show 4 ≤ 100; omega) _ (rec_new (k := 3) bdL_len W 152 (sp4 r x))
    rw [sp4_keep] at h
    refine h.mono ?_
    rintro e w' ⟨rfl, hb⟩
    exact ⟨rfl, ((Below.refl _ W).alloc (Nat.le_refl _) _).trans (hb.mono (by simp))⟩
  have hw0 : Hid (spB l n = spB (l.drop 0) n) := rfl
  generalize hz : spB l n = z at hw0 ⊢
  clear hz
  go_enter Try.func86, Try.ntmps86
  go_wp2
  go_loopw [1, 9] (fun q i wr => ∃ (k : Nat) (x : Int), k ≤ l.length ∧ i = .int .i64 k ∧ q = .int .i64 x ∧ 0 ≤ x ∧ x ≤ 4096 ∧ Below w.heap.size w wr ∧ Hid (z = spB (l.drop k) x)) (fun _ i _ => l.length - (intOf i).toNat)
  case atStart => exact ⟨0, n, by omega, rfl, rfl, by omega, by omega, Below.refl _ _, hw0⟩
  case round =>
    obtain ⟨k, x, hk, rfl, rfl, hx0, hx1, hb, hz⟩ := hrel
    by_cases hlt : k < l.length
    · rcases h2 with h2 | ⟨b, o, rfl, hbl, hc⟩
      · rw [h2] at hlt; simp at hlt
      · have c0 : wr.cell? ⟨b, o + k * 4, none⟩ = some (.int .i64 l[k].n) := (hb.cell hbl).trans (hc k hlt 0 _ rfl)
        have c1 : wr.cell? ⟨b, o + k * 4 + 1, none⟩ = some (.int .i64 l[k].s) := (hb.cell hbl).trans (hc k hlt 1 _ rfl)
        have c2 : wr.cell? ⟨b, o + k * 4 + 2, none⟩ = some (.int .i64 l[k].t) := (hb.cell hbl).trans (hc k hlt 2 _ rfl)
        have c3 : wr.cell? ⟨b, o + k * 4 + 3, none⟩ = some (.int .i64 l[k].k) := (hb.cell hbl).trans (hc k hlt 3 _ rfl)
        have hlt' : (k : Int) < l.length := by omega
        have hw := hb.size
        have hr' : Hid (Calls Try.prog 87 #[.slice (some ⟨wr.heap.size + 1, 0, none⟩) 4 4] ((wr.alloc (.cells #[.int .i64 l[k].n, .int .i64 l[k].s, .int .i64 l[k].t, .int .i64 l[k].k] 69)).alloc (.cells #[.int .i64 l[k].n, .int .i64 1, .int .i64 x, .int .i64 l[k].s, .int .i64 0, .int .i64 64, .int .i64 l[k].t, .int .i64 0, .int .i64 15, .int .i64 l[k].k, .int .i64 0, .int .i64 1] 152)) fun e w' => e = .returned (.bool (decide (1 ≤ l[k].n ∧ l[k].n ≤ x ∧ chB l[k] = true))) ∧ Below (wr.heap.size + 1) (wr.alloc (.cells #[.int .i64 l[k].n, .int .i64 l[k].s, .int .i64 l[k].t, .int .i64 l[k].k] 69)) w') := by
          have := hr.out (wr.alloc (.cells #[.int .i64 l[k].n, .int .i64 l[k].s, .int .i64 l[k].t, .int .i64 l[k].k] 69)) (wr.heap.size + 1) l[k] x (World.size_alloc _ _)
          rw [World.size_alloc] at this
          exact this
        have hbx : ∀ W, Below (wr.heap.size + 1) (wr.alloc (.cells #[.int .i64 l[k].n, .int .i64 l[k].s, .int .i64 l[k].t, .int .i64 l[k].k] 69)) W → W.cell? ⟨wr.heap.size, 0, none⟩ = some (.int .i64 l[k].n) ∧ Below w.heap.size w W := fun W hB => by
          refine ⟨(hB.cell (by simp)).trans ?_, (hb.alloc hb.size _).trans (hB.mono (by omega))⟩
          rw [Lib.cell_of_heap (World.alloc_heap_new wr _)]; rfl
        have hst := spB_step hlt (n := x)
        have hno := spB_no hlt (n := x)
        have hst' : Hid (1 ≤ l[k].n ∧ l[k].n ≤ x ∧ chB l[k] = true → z = spB (l.drop (k + 1)) (x - l[k].n)) := fun h => hz.out.trans (hst h)
        have hno' : Hid (¬ (1 ≤ l[k].n ∧ l[k].n ≤ x ∧ chB l[k] = true) → z = false) := fun h => hz.out.trans (hno h)
        clear hst hno hz hr hc
        by_cases hv : 1 ≤ l[k].n ∧ l[k].n ≤ x ∧ chB l[k] = true
        · rw [decide_eq_true hv] at hr'
          have hz' := hst'.out hv
          have hz2 : Hid (z = spB (l.drop (k + 1)) (x - l[k].n)) := hz'
          obtain ⟨hv1, hv2, _⟩ := hv
          clear hst' hno' hz'
          generalize l[k].n = x0 at *
          generalize l[k].s = x1 at *
          generalize l[k].t = x2 at *
          generalize l[k].k = x3 at *
          go_wp2_with (go_at_call 87; refine hr'.out.mono ?_; rintro e w' ⟨rfl, hB⟩; obtain ⟨d0, hB2⟩ := hbx _ hB)
          go_roundw
          case rel => exact ⟨k + 1, x - x0, by omega, by simp, by first | rfl | simp, by omega, by omega, hB2, hz2⟩
          case measure => simp [intOf]; omega
        · rw [decide_eq_false hv] at hr'
          have hz' := hno'.out hv
          subst hz'
          clear hst' hno' hv
          generalize l[k].n = x0 at *
          generalize l[k].s = x1 at *
          generalize l[k].t = x2 at *
          generalize l[k].k = x3 at *
          go_wp2_with (go_at_call 87; refine hr'.out.mono ?_; rintro e w' ⟨rfl, hB⟩; obtain ⟨d0, hB2⟩ := hbx _ hB)
          go_ret
          exact ⟨rfl, hB2⟩
    · have hge : ¬ (k : Int) < l.length := by omega
      obtain rfl : k = l.length := by omega
      have hz' := hz.out.trans (spB_end l x)
      subst hz'
      clear hz hr h2
      go_wp2_with fail
      all_goals go_ret
      all_goals refine ⟨?_, hb⟩
      all_goals congr 2
      all_goals (try rfl)
      all_goals (rw [Bool.eq_iff_iff]; simp)

end Go.Proofs.Ytkhnfmdhdfpdhaa

namespace Go.Proofs.Ytkhnfmdhdfpdhaa
open Go.RowKit Go.Shelf

/-- All bytes are letters. -/
def visB (s : ByteArray) : Bool := decide (∀ k, k < s.size → 32 < bt s k ∧ bt s k ≤ 126)
def standB (s : ByteArray) (a b : Int) : Bool := decide (a ≤ s.size ∧ (s.size : Int) ≤ b) && visB s
theorem vis_no {s : ByteArray} {k : Nat} (hk : k < s.size) (h : ¬ (32 < bt s k ∧ bt s k ≤ 126)) : visB s = false := decide_eq_false (fun ha => h (ha k hk))

set_option maxRecDepth 100000 in
set_option maxHeartbeats 1000000 in
theorem mayStand_any (s : ByteArray) (a b : Int) (hb : b ≤ 16) (w : World) : Calls Try.prog 89 #[.string s, .int .i64 a, .int .i64 b] w fun e w' => e = .returned (.bool (standB s a b)) ∧ w' = w := by
  by_cases h1 : a ≤ s.size
  · by_cases h2 : (s.size : Int) ≤ b
    · have e0 : standB s a b = visB s := by unfold standB; rw [decide_eq_true ⟨h1, h2⟩, Bool.true_and]
      rw [e0]
      clear e0
      have hN : Hid (∀ k, k < s.size → ¬ (32 < bt s k ∧ bt s k ≤ 126) → visB s = false) := fun k hk h => vis_no hk h
      have hY : Hid ((∀ k, k < s.size → 32 < bt s k ∧ bt s k ≤ 126) → visB s = true) := fun h => decide_eq_true h
      generalize visB s = r at hN hY ⊢
      go_enter Try.func89, Try.ntmps89
      go_wp2
      go_loopw [20] (fun i wr => ∃ k : Nat, k ≤ s.size ∧ i = .int .i64 k ∧ wr = w ∧ Hid (∀ j, j < k → 32 < bt s j ∧ bt s j ≤ 126)) (fun i _ => s.size - (intOf i).toNat)
      case atStart => exact ⟨0, by omega, rfl, rfl, fun j hj => by omega⟩
      case round =>
        obtain ⟨k, hk, rfl, rfl, hall⟩ := hrel
        by_cases hlt : k < s.size
        · have hb0 : Hid (bt s k = ((s[k]'hlt).toNat : Int)) := bt_eq hlt
          have hno := hN.out k hlt
          have hno' : Hid (¬ (32 < bt s k ∧ bt s k ≤ 126) → r = false) := hno
          have hyes : Hid ((32 < bt s k ∧ bt s k ≤ 126) → ∀ j, j < k + 1 → 32 < bt s j ∧ bt s j ≤ 126) := fun hv j hj => by
            by_cases h : j < k
            · exact hall.out j h
            · obtain rfl : j = k := by omega
              exact hv
          clear hN hY hall hno
          by_cases d1 : ((s[k]'hlt).toNat : Int) ≤ 32
          · have hn := hno'.out (by rw [hb0.out]; omega)
            subst hn
            clear hno' hyes hb0
            go_wp2_with fail
            go_ret
            exact ⟨rfl, rfl⟩
          · by_cases d2 : 126 < ((s[k]'hlt).toNat : Int)
            · have hn := hno'.out (by rw [hb0.out]; omega)
              subst hn
              clear hno' hyes hb0
              go_wp2_with fail
              go_ret
              exact ⟨rfl, rfl⟩
            · have hy : Hid (∀ j, j < k + 1 → 32 < bt s j ∧ bt s j ≤ 126) := hyes.out (by rw [hb0.out]; omega)
              clear hno' hyes hb0
              go_wp2_with fail
              go_roundw
              case rel => exact ⟨k + 1, by omega, by simp, by first | rfl | trivial, hy⟩
              case measure => simp [intOf]; omega
        · have hn := hY.out (fun j hj => hall.out j (by omega))
          clear hN hY hall
          subst hn
          go_wp2_with fail
          go_ret
          exact ⟨rfl, rfl⟩
    · have e0 : standB s a b = false := by unfold standB; rw [decide_eq_false (fun h => h2 h.2), Bool.false_and]
      rw [e0]
      clear e0
      go_enter Try.func89, Try.ntmps89
      go_wp2
      go_ret
      exact ⟨rfl, rfl⟩
  · have e0 : standB s a b = false := by unfold standB; rw [decide_eq_false (fun h => h1 h.1), Bool.false_and]
    rw [e0]
    clear e0
    go_enter Try.func89, Try.ntmps89
    go_wp2
    go_ret
    exact ⟨rfl, rfl⟩

/-- Has a text a Field? -/
def fieldB (t : ByteArray) : Bool := decide (∃ k, k < t.size ∧ bt t k = 3)
theorem mem_bt {t : ByteArray} {c : UInt8} : c ∈ t.data.toList ↔ ∃ k, k < t.size ∧ bt t k = (c.toNat : Int) := by
  constructor
  · intro h
    obtain ⟨k, hk, rfl⟩ := List.getElem_of_mem h
    have hk' : k < t.size := by simpa using hk
    exact ⟨k, hk', by rw [bt_eq hk']; simp [ByteArray.getElem_eq_getElem_data]⟩
  · rintro ⟨k, hk, e⟩
    rw [bt_eq hk] at e
    have : t[k] = c := UInt8.toNat_inj.1 (by omega)
    rw [← this]
    simp [ByteArray.getElem_eq_getElem_data]
theorem index_pos (l : List UInt8) (c : UInt8) : (0 ≤ Lib.indexByte l c) ↔ c ∈ l := by
  induction l with
  | nil => simp [Lib.indexByte]
  | cons b l ih =>
    have hg := Lib.indexByte_ge l c
    rw [Lib.indexByte]
    by_cases e : b = c
    · simp [e]
    · have e' : (b == c) = false := by simpa using e
      rw [e']
      by_cases h : Lib.indexByte l c = -1
      · simp [h]
        have : ¬ c ∈ l := fun hm => by have := ih.2 hm; omega
        exact ⟨fun h => e h.symm, this⟩
      · have h' : (Lib.indexByte l c == -1) = false := by simpa using h
        rw [h']
        have : c ∈ l := ih.1 (by omega)
        simp [this]
        omega
theorem field_index (t : ByteArray) : decide (0 ≤ Lib.indexByte t.data.toList 3) = fieldB t := by
  unfold fieldB
  rw [decide_eq_decide, index_pos, mem_bt]
  rfl

set_option maxRecDepth 100000 in
set_option maxHeartbeats 1000000 in
theorem liteIndex_any (t : ByteArray) (c : Int) (w : World) : Calls Try.prog 102 #[.string t, .int .u8 c] w fun e w' => e = .returned (.int .i64 (Lib.indexByte t.data.toList c.toNat.toUInt8)) ∧ w' = w := by
  go_enter Try.func102, Try.ntmps102
  go_wp2
  rw [run_callFunc_extern Try.func108 (by kernel_rfl) (by kernel_rfl) (by kernel_rfl) (e := Extern.BytealgIndexByte.indexByte) (by kernel_rfl), Lib.run_indexByteString]
  simp only [Result.andThen]
  rw [Oper.upon_value]
  go_wp2
  go_ret
  exact ⟨rfl, rfl⟩
set_option maxRecDepth 100000 in
set_option maxHeartbeats 1000000 in
theorem indexByte_any (t : ByteArray) (w : World) : Calls Try.prog 85 #[.string t, .int .u8 3] w fun e w' => e = .returned (.int .i64 (Lib.indexByte t.data.toList 3)) ∧ w' = w := by
  have h := liteIndex_any t 3 w
  go_enter Try.func85, Try.ntmps85
  go_wp2_with (go_at_call 102; refine h.mono ?_; rintro e w' ⟨rfl, hww⟩; subst w')
  go_ret
  exact ⟨rfl, rfl⟩

/-- How many Refs are among the first bytes. -/
def refN (t : ByteArray) : Nat → Nat
  | 0 => 0
  | k + 1 => refN t k + (if bt t k = 2 then 1 else 0)
theorem refN_take (t : ByteArray) : ∀ k, k ≤ t.size → refN t k = (t.data.toList.take k).count 2
  | 0, _ => by simp [refN]
  | k + 1, h => by
    have hk : k < t.data.toList.length := by simp; omega
    rw [List.take_succ_eq_append_getElem hk, List.count_append, refN, refN_take t k (by omega)]
    have e : bt t k = ((t.data.toList[k]).toNat : Int) := by rw [bt_eq (by omega)]; simp [ByteArray.getElem_eq_getElem_data]
    rw [e]
    congr 1
    by_cases h2 : t.data.toList[k] = 2
    · rw [h2]; rfl
    · have h3 : ¬ ((t.data.toList[k]).toNat : Int) = 2 := fun h => h2 (UInt8.toNat_inj.1 (by show _ = 2; omega))
      rw [if_neg h3]
      generalize t.data.toList[k] = y at h2
      simp [h2]
theorem refN_count (t : ByteArray) : t.data.toList.count 2 = refN t t.size := by
  rw [refN_take t t.size (Nat.le_refl _)]
  congr 1
  symm
  apply List.take_of_length_le
  simp
theorem refN_le (t : ByteArray) : ∀ k, refN t k ≤ k
  | 0 => Nat.le_refl _
  | k + 1 => by
    have := refN_le t k
    show refN t k + (if bt t k = 2 then 1 else 0) ≤ k + 1
    split <;> omega

set_option maxRecDepth 100000 in
set_option maxHeartbeats 1000000 in
theorem count_any (t : ByteArray) (w : World) : Calls Try.prog 103 #[.string t, .string { data := #[2] }] w fun e w' => e = .returned (.int .i64 (refN t t.size : Nat)) ∧ w' = w := by
  have hcnt : Lib.countByte t.data.toList 2 = refN t t.size := refN_count t
  go_enter Try.func103, Try.ntmps103
  go_wp2
  rw [run_callFunc_extern Try.func110 (by kernel_rfl) (by kernel_rfl) (by kernel_rfl) (e := Extern.BytealgCount.count) (by kernel_rfl), Lib.run_countString]
  simp only [Result.andThen]
  rw [Oper.upon_value]
  go_wp2
  go_ret
  exact ⟨by rw [← hcnt]; rfl, rfl⟩

end Go.Proofs.Ytkhnfmdhdfpdhaa
