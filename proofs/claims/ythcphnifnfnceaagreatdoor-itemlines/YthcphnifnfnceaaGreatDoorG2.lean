/-
  What is proved here: an append of any list, a nil one too, to a row of the call's own (no program is named).
  What is proved here: lists of records, in memory (no program is named).
  What is proved here: how a region is gone through whose operations come up in any order (no function of the program is named).
  What is proved here: what an item is, which may be; what keeps, fits and stop answer.
-/
import Derived.Test.YthcphnifnfnceaaGreatDoorG1
import Derived.OwnWalk
import Derived.Deep.AppendSrc
import Derived.Below
import Derived.Lib.Builder
import Derived.WalkKit
import Derived.WalkSpells
import Derived.Shelf.Abstract
import Derived.OrdersHeld
import Derived.Test.YthcphnifnfnceaaGreatDoorRows
import Derived.BigQuiet
import Derived.Handy
namespace Go.Proofs.YthcphnifnfnceaaGreatDoor
open Go.RowKit

/-- The cells of a list that is appended. -/
def Srcs (W : World) (size : Nat) (x : Value) (m : Nat) (news : List Value) : Prop :=
  news.length = m * size ∧ (∀ u ∈ news, u.oneCell' = true) ∧ ((m = 0 ∧ ∃ c, x = .slice none 0 c) ∨ ∃ a c, x = .slice (some a) m c ∧ ∀ j u, news[j]? = some u → W.cell? (a.add j) = some u)

theorem run_append_any {P : Program} (w : World) (base : Nat) (t ty e : TypeId) (i : TypeInfo) (z : Value) (size bytes : Nat) (ht : P.underlying t = some (.slice e)) (hi : P.info? e = some i) (hz : i.zero = some z)
    (hsize : i.size = size) (hby : i.bytes = bytes) (hzs : z.cells.size = size) (hsz : 0 < size)
    (v : Value) (n : Nat) (xs : List Value) (hown : w.ownsRow base e size v n xs) (x : Value) (m : Nat) (news : List Value) (hx : Srcs w size x m news)
    (h63 : n + m ≤ maxLen) (hbytes : (n + m) * bytes ≤ 140737488355328) (hbase : base ≤ w.heap.size) :
    ∃ v' w', (Builtin.append_ #[t, t] ty #[v, x]).run P w = .ok v' w' ∧ w'.ownsRow base e size v' (n + m) (xs ++ news) ∧ w.grownBy w' v.ownBlock := by
  obtain ⟨hl, h1, hx⟩ := hx
  rcases hx with ⟨rfl, c, rfl⟩ | ⟨a, c, rfl, hc⟩
  · have hn : news = [] := List.eq_nil_of_length_eq_zero (by simpa using hl)
    subst hn
    refine ⟨v, w, ?_, by simpa using hown, World.grownBy.refl _ _⟩
    rcases hown.2 with ⟨rfl, rfl⟩ | ⟨g, cap, cur, rfl, hbg, hg, hnc, hcm, hcs, htake⟩
    · simp [Builtin.append_, run_underlying ht, sizeOf, typeInfo, hi, Builtin.lenOf, run_firstCells_none]
    · have := run_append_room_src (P := P) w t t ty e i ht hi g 0 n cap (.slice none 0 c) 0 [] (Src.ofNil w ht c) (by omega) (by simp) (by simp)
      rw [this]
      simp [World.setCells]
  · obtain ⟨v', w', r0, r1, r2, _⟩ := run_append_own (P := P) w base t ty e i z size bytes ht hi hz hsize hby hzs hsz v n xs hown a m c news hl hc h1 h63 hbytes hbase
    exact ⟨v', w', r0, r1, r2⟩

theorem wpList_append_any {P : Program} (w : World) {ops : Array Oper} {rest : List Oper} {o : Oper} {a : Act} {Q : Exit → Act → World → Prop} (hgd : o.guard = none) (sl x : Operand) (t : TypeId)
    (ho : o.op = .call { callee := .builtin .append, args := #[sl, x], argTypes := #[t, t] })
    (base : Nat) (e : TypeId) (i : TypeInfo) (z : Value) (size bytes : Nat) (ht : P.underlying t = some (.slice e)) (hi : P.info? e = some i) (hz : i.zero = some z) (hsize : i.size = size) (hby : i.bytes = bytes) (hzs : z.cells.size = size) (hsz : 0 < size)
    (v : Value) (n : Nat) (xs : List Value) (hs : a.eval sl = v) (hown : w.ownsRow base e size v n xs) (m : Nat) (news : List Value) (u : Value) (hxe : a.eval x = u) (hx : Srcs w size u m news)
    (h63 : n + m ≤ maxLen) (hbytes : (n + m) * bytes ≤ 140737488355328) (hbase : base ≤ w.heap.size)
    (h : ∀ v' w', w'.ownsRow base e size v' (n + m) (xs ++ news) → w.grownBy w' v.ownBlock → wpList P ops Q rest (a.put o.dst v') w') : wpList P ops Q (o :: rest) a w := by
  refine wpList_plain hgd fun K hK => ?_
  obtain ⟨v', w', hr, h2, h3⟩ := run_append_any (P := P) w base t o.type e i z size bytes ht hi hz hsize hby hzs hsz v n xs hown u m news hx h63 hbytes hbase
  unfold Oper.wp execOp
  simp only [ho, resolve, invoke, builtin, Sem.run_bind, Sem.run_pure, Result.andThen_ok, List.map_toArray, List.map_cons, List.map_nil, hs, hxe, hr]
  exact hK _ _ (h v' w' h2 h3)

theorem below_grown {B base : Nat} {w w1 w2 : World} {e : TypeId} {size n : Nat} {v : Value} {xs : List Value} (h : Below B w w1) (hrow : w1.ownsRow base e size v n xs) (hBw : B ≤ w.heap.size) (hB : B ≤ base) (hg : w1.grownBy w2 v.ownBlock) : Below B w w2 := by
  refine ⟨hg.os.trans h.1, hg.tape.trans h.2, hg.output.trans h.3, Nat.le_trans h.size hg.size, fun k hk => ?_⟩
  exact (hg.block k (by have := h.size; omega) (fun he => by have := (hrow.lt k he.symm).1; omega)).trans (h.block k hk)

theorem ownsRow_below {W W' : World} {base : Nat} {e : TypeId} {size : Nat} {v : Value} {n : Nat} {xs : List Value} (h : W.ownsRow base e size v n xs) (hb : Below W.heap.size W W') : W'.ownsRow base e size v n xs := by
  refine ⟨h.1, ?_⟩
  rcases h.2 with hn | ⟨g, cap, cur, rfl, hb', hg, r⟩
  · exact .inl hn
  · exact .inr ⟨g, cap, cur, rfl, hb', (hb.block g (Array.getElem?_eq_some_iff.1 hg).1).trans hg, r⟩


/-- An empty row that was made by a literal. -/
theorem ownsRow_lit (w : World) (e : TypeId) (size : Nat) (base : Nat) (hb : base ≤ w.heap.size) : (w.alloc (.cells #[] e)).ownsRow base e size (.slice (some ⟨w.heap.size, 0, none⟩) 0 0) 0 [] :=
  ⟨by simp, .inr ⟨w.heap.size, 0, #[], rfl, hb, World.alloc_heap_new w _, by omega, by unfold maxLen; omega, by simp, by simp⟩⟩

theorem addr_add0 (b j : Nat) : (⟨b, 0, none⟩ : Addr).add j = ⟨b, j, none⟩ := by
  unfold Addr.add; split
  · rename_i h; rw [h]
  · simp
theorem addr_add (b o j : Nat) : (⟨b, o, none⟩ : Addr).add j = ⟨b, o + j, none⟩ := by
  unfold Addr.add; split
  · rename_i h; rw [h]; rfl
  · simp

/-- A row, as what is appended. -/
theorem ownsRow_srcs {W : World} {base : Nat} {e : TypeId} {size : Nat} {v : Value} {n : Nat} {xs : List Value} (h : W.ownsRow base e size v n xs) (h1 : ∀ u ∈ xs, u.oneCell' = true) : Srcs W size v n xs := by
  refine ⟨h.1, h1, ?_⟩
  rcases h.2 with ⟨rfl, rfl⟩ | ⟨g, cap, cur, rfl, hb', hg, r⟩
  · exact .inl ⟨rfl, 0, rfl⟩
  · exact .inr ⟨_, _, rfl, h.cells (g := g) rfl⟩
end Go.Proofs.YthcphnifnfnceaaGreatDoor

namespace Go.Proofs.YthcphnifnfnceaaGreatDoor
open Go.RowKit Go.Shelf

theorem fm_len {α : Type} {k : Nat} {f : α → List Value} (hf : ∀ a, (f a).length = k) (l : List α) : (l.flatMap f).length = l.length * k := by
  induction l with
  | nil => simp
  | cons p r ih => rw [List.flatMap_cons, List.length_append, ih, hf, List.length_cons, Nat.succ_mul]; omega
theorem fm_get {α : Type} {k : Nat} {f : α → List Value} (hf : ∀ a, (f a).length = k) (ps : List α) {i : Nat} (h : i < ps.length) (j : Nat) (hj : j < k) : (ps.flatMap f)[i * k + j]? = (f ps[i])[j]? := by
  have hs : ps = ps.take i ++ (ps[i] :: ps.drop (i + 1)) := by simp
  conv => lhs; rw [hs]
  have hl : ((ps.take i).flatMap f).length = i * k := by rw [fm_len hf, List.length_take, Nat.min_eq_left (by omega)]
  rw [List.flatMap_append, List.flatMap_cons, List.getElem?_append_right (by omega), hl, List.getElem?_append_left (by rw [hf]; omega)]
  congr 1; omega
theorem fm_one {α : Type} {f : α → List Value} (h1 : ∀ a, ∀ u ∈ f a, u.oneCell' = true) (ps : List α) : ∀ u ∈ ps.flatMap f, u.oneCell' = true := by
  intro u hu
  obtain ⟨p, _, hp⟩ := List.mem_flatMap.1 hu
  exact h1 p u hp

/-- A list of records of k cells, in memory. -/
structure RecAt {α : Type} (k : Nat) (f : α → List Value) (W : World) (v : Value) (rs : List α) : Prop where
  ex : ∃ a cap, v = .slice a rs.length cap ∧ (rs = [] ∨ ∃ b o, a = some ⟨b, o, none⟩ ∧ b < W.heap.size ∧ ∀ (i : Nat) (h : i < rs.length) (j : Nat) (u : Value), (f rs[i])[j]? = some u → W.cell? ⟨b, o + i * k + j, none⟩ = some u)
  le : ∀ a n c, v = .slice a n c → n ≤ c
theorem RecAt.below {α : Type} {k : Nat} {f : α → List Value} {W W' : World} {n : Nat} {v : Value} {rs : List α} (h : RecAt k f W v rs) (hb : Below n W W') (hn : W.heap.size ≤ n) : RecAt k f W' v rs := by
  have hle := h.le
  obtain ⟨a, cap, rfl, h2⟩ := h.ex
  refine ⟨⟨a, cap, rfl, ?_⟩, hle⟩
  rcases h2 with h2 | ⟨b, o, rfl, hlt, hc⟩
  · exact .inl h2
  · exact .inr ⟨b, o, rfl, Nat.lt_of_lt_of_le hlt hb.size, fun i hi j u hu => (hb.cell (Nat.lt_of_lt_of_le hlt hn)).trans (hc i hi j u hu)⟩
theorem rec_of_row {α : Type} {k : Nat} {f : α → List Value} (hf : ∀ a, (f a).length = k) {W : World} {base : Nat} {e : TypeId} {v : Value} {rs : List α} {n : Nat} (hn : n = rs.length) (h : W.ownsRow base e k v n (rs.flatMap f)) : RecAt k f W v rs := by
  subst hn
  rcases h.2 with ⟨rfl, hn⟩ | ⟨g, cap, cur, rfl, hb', hg, hnc, _⟩
  · have : rs = [] := List.eq_nil_of_length_eq_zero hn
    exact ⟨⟨none, 0, by rw [hn], .inl this⟩, fun a n c e => by cases e; exact Nat.le_refl _⟩
  · refine ⟨⟨_, cap, rfl, .inr ⟨g, 0, rfl, (Array.getElem?_eq_some_iff.1 hg).1, fun i hi j u hu => ?_⟩⟩, fun a n c e => by cases e; exact hnc⟩
    have hj : j < k := by rw [← hf rs[i]]; exact (List.getElem?_eq_some_iff.1 hu).1
    have hc := h.cells (g := g) rfl (i * k + j) u (by rw [fm_get hf rs hi j hj, hu])
    rw [addr_add0] at hc
    rw [Nat.zero_add]
    exact hc
theorem rec_new {α : Type} {k : Nat} {f : α → List Value} (hf : ∀ a, (f a).length = k) (w : World) (e : TypeId) (rs : List α) : RecAt k f (w.alloc (.cells (rs.flatMap f).toArray e)) (.slice (some ⟨w.heap.size, 0, none⟩) rs.length rs.length) rs := by
  refine ⟨⟨_, _, rfl, .inr ⟨_, 0, rfl, by simp, fun i hi j u hu => ?_⟩⟩, fun a n c e => by cases e; exact Nat.le_refl _⟩
  have hj : j < k := by rw [← hf rs[i]]; exact (List.getElem?_eq_some_iff.1 hu).1
  rw [Lib.cell_of_heap (World.alloc_heap_new w _), Nat.zero_add]
  have := fm_get hf rs hi j hj
  rw [hu] at this
  simpa using this
theorem rec_srcs {α : Type} {k : Nat} {f : α → List Value} (hf : ∀ a, (f a).length = k) (h1 : ∀ a, ∀ u ∈ f a, u.oneCell' = true) (hk : 0 < k) {W : World} {v : Value} {rs : List α} (h : RecAt k f W v rs) : Srcs W k v rs.length (rs.flatMap f) := by
  refine ⟨fm_len hf rs, fm_one h1 rs, ?_⟩
  obtain ⟨a, cap, rfl, h2⟩ := h.ex
  rcases h2 with rfl | ⟨b, o, rfl, hlt, hc⟩
  · cases a with
    | none => exact .inl ⟨rfl, cap, rfl⟩
    | some a => exact .inr ⟨a, cap, rfl, fun j u hu => by simp at hu⟩
  · refine .inr ⟨_, cap, rfl, fun j u hu => ?_⟩
    have hj : j < rs.length * k := by rw [← fm_len hf]; exact (List.getElem?_eq_some_iff.1 hu).1
    have hi : j / k < rs.length := by rw [Nat.div_lt_iff_lt_mul hk]; omega
    have hm : j % k < k := Nat.mod_lt _ hk
    have hg := fm_get hf rs hi (j % k) hm
    have hjj : j / k * k + j % k = j := by have := Nat.div_add_mod j k; rw [Nat.mul_comm] at this; exact this
    rw [hjj, hu] at hg
    have := hc (j / k) hi (j % k) u hg.symm
    rw [addr_add]
    rw [← this]
    congr 2
    omega
theorem RecAt.nil {α : Type} {k : Nat} {f : α → List Value} (W : World) (c : Nat) : RecAt k f W (.slice none 0 c) [] := ⟨⟨none, c, rfl, .inl rfl⟩, fun a n c e => by cases e; exact Nat.zero_le _⟩
end Go.Proofs.YthcphnifnfnceaaGreatDoor

namespace Go.Proofs.YthcphnifnfnceaaGreatDoor
open Go.RowKit Go.Shelf

theorem take_h {P : Program} {md : Region.Mode} {ops : Array Oper} {Q : Exit → Act → World → Prop} {S : World → Prop} {i : Nat} {oi : Oper} {v : Value} {fuel : Nat} {listed : Array Bool} {a : Act} {w : World} (a' : Act) (hi : ops[i]? = some oi)
    (hs : Region.noSelect ops = true) (hf : Region.free md ops listed i = true) (hr : (Region.ready md ops listed).contains i = true)
    (hQ : ∀ c x w, Q (.panic c) (x.put oi.dst v) w → Q (.panic c) x w) (hw : Region.wanted oi (yielded ops a.tmps) = true) (hy : ∀ w, S w → (execOp a.eval oi).run P w = .ok (.value v) w) (ha : a.put oi.dst v = a') (hS : S w)
    (h : wpAnyH P md ops Q S fuel (listed.setIfInBounds i true) a' w) : wpAnyH P md ops Q S (fuel + 1) listed a w :=
  wpAnyH_take hi hs hf hr hQ (Or.inl ⟨hw, hy⟩) hS (ha ▸ h)
theorem skip_h {P : Program} {md : Region.Mode} {ops : Array Oper} {Q : Exit → Act → World → Prop} {S : World → Prop} {i : Nat} {oi : Oper} {fuel : Nat} {listed : Array Bool} {a : Act} {w : World} (a' : Act) (hi : ops[i]? = some oi)
    (hs : Region.noSelect ops = true) (hf : Region.free md ops listed i = true) (hr : (Region.ready md ops listed).contains i = true)
    (hQ : ∀ c x w, Q (.panic c) (x.put oi.dst undef) w → Q (.panic c) x w) (hw : Region.wanted oi (yielded ops a.tmps) = false) (ha : a.put oi.dst undef = a') (hS : S w)
    (h : wpAnyH P md ops Q S fuel (listed.setIfInBounds i true) a' w) : wpAnyH P md ops Q S (fuel + 1) listed a w :=
  wpAnyH_take hi hs hf hr hQ (Or.inr ⟨hw, rfl⟩) hS (ha ▸ h)
theorem want_h {P : Program} {md : Region.Mode} {ops : Array Oper} {Q : Exit → Act → World → Prop} {S : World → Prop} {i : Nat} {oi : Oper} {fuel : Nat} {listed : Array Bool} {a : Act} {w : World} (hr : Region.ready md ops listed = [i]) (hi : ops[i]? = some oi)
    (hw : Region.wanted oi (yielded ops a.tmps) = true) (h : ∀ K : Act → World → Prop, (∀ a' w', S w' → wpAnyH P md ops Q S fuel (listed.setIfInBounds i true) a' w' → K a' w') → oi.wp P a w K Q) : wpAnyH P md ops Q S (fuel + 1) listed a w :=
  wpAnyH_all hr (by simp) fun j hj => by
    obtain rfl := List.mem_singleton.1 hj
    unfold wpOp
    simp only [hi, hw, if_true]
    exact Or.inl (h _ fun a' w' hS h' => ⟨hS, h'⟩)
theorem cast_h {P : Program} {md : Region.Mode} {ops : Array Oper} {Q : Exit → Act → World → Prop} {S : World → Prop} {fuel : Nat} {listed : Array Bool} {a : Act} {w : World} (a' : Act) (ha : a = a') (h : wpAnyH P md ops Q S fuel listed a' w) : wpAnyH P md ops Q S fuel listed a w := ha ▸ h

theorem two_h {P : Program} {md : Region.Mode} {ops : Array Oper} {Q : Exit → Act → World → Prop} {S : World → Prop} {i j : Nat} {oi oj : Oper} {fuel : Nat} {listed : Array Bool} {a : Act} {w : World} (hr : Region.ready md ops listed = [i, j]) (hi : ops[i]? = some oi) (hj : ops[j]? = some oj)
    (hw : Region.wanted oi (yielded ops a.tmps) = true) (hw' : Region.wanted oj (yielded ops a.tmps) = true) (h : ∀ K : Act → World → Prop, (∀ a' w', S w' → wpAnyH P md ops Q S fuel (listed.setIfInBounds i true) a' w' → K a' w') → oi.wp P a w K Q)
    (h' : ∀ K : Act → World → Prop, (∀ a' w', S w' → wpAnyH P md ops Q S fuel (listed.setIfInBounds j true) a' w' → K a' w') → oj.wp P a w K Q) : wpAnyH P md ops Q S (fuel + 1) listed a w :=
  wpAnyH_all hr (by simp) fun k hk => by
    rcases List.mem_cons.1 hk with rfl | hk
    · unfold wpOp
      simp only [hi, hw, if_true]
      exact Or.inl (h _ fun a' w' hS h' => ⟨hS, h'⟩)
    · obtain rfl := List.mem_singleton.1 hk
      unfold wpOp
      simp only [hj, hw', if_true]
      exact Or.inl (h' _ fun a' w' hS h' => ⟨hS, h'⟩)

theorem wp_append_any {P : Program} (w : World) {o : Oper} {a : Act} {K : Act → World → Prop} {Q : Exit → Act → World → Prop} (sl x : Operand) (t : TypeId)
    (ho : o.op = .call { callee := .builtin .append, args := #[sl, x], argTypes := #[t, t] })
    (base : Nat) (e : TypeId) (i : TypeInfo) (z : Value) (size bytes : Nat) (ht : P.underlying t = some (.slice e)) (hi : P.info? e = some i) (hz : i.zero = some z) (hsize : i.size = size) (hby : i.bytes = bytes) (hzs : z.cells.size = size) (hsz : 0 < size)
    (v : Value) (n : Nat) (xs : List Value) (hs : a.eval sl = v) (hown : w.ownsRow base e size v n xs) (m : Nat) (news : List Value) (u : Value) (hxe : a.eval x = u) (hx : Srcs w size u m news)
    (h63 : n + m ≤ maxLen) (hbytes : (n + m) * bytes ≤ 140737488355328) (hbase : base ≤ w.heap.size)
    (h : ∀ v' w', w'.ownsRow base e size v' (n + m) (xs ++ news) → w.grownBy w' v.ownBlock → K (a.put o.dst v') w') : o.wp P a w K Q := by
  obtain ⟨v', w', hr, h2, h3⟩ := run_append_any (P := P) w base t o.type e i z size bytes ht hi hz hsize hby hzs hsz v n xs hown u m news hx h63 hbytes hbase
  unfold Oper.wp execOp
  simp only [ho, resolve, invoke, builtin, Sem.run_bind, Sem.run_pure, Result.andThen_ok, List.map_toArray, List.map_cons, List.map_nil, hs, hxe, hr]
  exact h v' w' h2 h3
theorem list_h {P : Program} {md : Region.Mode} {ops : Array Oper} {Q : Exit → Act → World → Prop} {S : World → Prop} {fuel : Nat} {listed : Array Bool} {a : Act} {w : World} (listed' : Array Bool) (hl : listed = listed') (h : wpAnyH P md ops Q S fuel listed' a w) : wpAnyH P md ops Q S fuel listed a w := hl ▸ h

end Go.Proofs.YthcphnifnfnceaaGreatDoor

namespace Go.Proofs.YthcphnifnfnceaaGreatDoor
open Go.RowKit Go.Shelf

/-- An item: kind, from, to, width, stretch, shrink, cost, hyphen. -/
structure It where
  k : Int
  f : Int
  t : Int
  w : Int
  s : Int
  h : Int
  c : Int
  y : Bool
def itL (x : It) : List Value := [.int .i64 x.k, .int .i64 x.f, .int .i64 x.t, .int .i64 x.w, .int .i64 x.s, .int .i64 x.h, .int .i64 x.c, .bool x.y]
theorem itL_len (x : It) : (itL x).length = 8 := rfl
theorem itL_one (x : It) : ∀ u ∈ itL x, u.oneCell' = true := by
  intro u hu; simp [itL] at hu; rcases hu with rfl | rfl | rfl | rfl | rfl | rfl | rfl | rfl <;> rfl
/-- May an item be? -/
def okP (x : It) : Prop := (1 ≤ x.k ∧ x.k ≤ 4) ∧ 0 ≤ x.f ∧ x.f ≤ x.t ∧ (0 ≤ x.w ∧ x.w ≤ 524288) ∧ (0 ≤ x.s ∧ x.s ≤ 4095) ∧ (0 ≤ x.h ∧ x.h ≤ 4095) ∧ (0 ≤ x.c ∧ x.c ≤ 4095) ∧ (x.k ≠ 4 ∨ x.w = 0) ∧ (x.k = 2 ∨ (x.s = 0 ∧ x.h = 0)) ∧ (x.k = 3 ∨ (x.c = 0 ∧ x.y = false))
instance (x : It) : Decidable (okP x) := by unfold okP; infer_instance
def okI (x : It) : Bool := decide (okP x)
theorem below_drewM {n : Nat} {w w' : World} (h : Below n w w') (q : Nat) : Below n w (w'.drewN q) := ⟨h.1, h.2, h.3, h.4, h.5⟩

def keB (n m : Int) : Bool := decide (0 ≤ n ∧ n ≤ m)
set_option maxRecDepth 100000 in
theorem keeps_any (n m : Int) (w : World) : Calls Tryz.prog 87 #[.int .i64 n, .int .i64 m] w fun e w' => e = .returned (.bool (keB n m)) ∧ w' = w := by
  unfold keB
  by_cases h1 : 0 ≤ n
  · by_cases h2 : n ≤ m
    · rw [decide_eq_true ⟨h1, h2⟩]
      go_enter Tryz.func87, Tryz.ntmps87
      go_wp2
      go_ret
      exact ⟨rfl, rfl⟩
    · rw [decide_eq_false (by omega)]
      go_enter Tryz.func87, Tryz.ntmps87
      go_wp2
      go_ret
      exact ⟨rfl, rfl⟩
  · rw [decide_eq_false (by omega)]
    go_enter Tryz.func87, Tryz.ntmps87
    go_wp2
    go_ret
    exact ⟨rfl, rfl⟩
set_option maxRecDepth 100000 in
theorem fits_any (n : Int) (w : World) : Calls Tryz.prog 52 #[.int .i64 n] w fun e w' => e = .returned (.bool (keB n 4095)) ∧ w' = w := by
  unfold keB
  by_cases h1 : 0 ≤ n
  · by_cases h2 : n ≤ 4095
    · rw [decide_eq_true ⟨h1, h2⟩]
      go_enter Tryz.func52, Tryz.ntmps52
      go_wp2
      go_ret
      exact ⟨rfl, rfl⟩
    · rw [decide_eq_false (by omega)]
      go_enter Tryz.func52, Tryz.ntmps52
      go_wp2
      go_ret
      exact ⟨rfl, rfl⟩
  · rw [decide_eq_false (by omega)]
    go_enter Tryz.func52, Tryz.ntmps52
    go_wp2
    go_ret
    exact ⟨rfl, rfl⟩
/-- The stop behind a place. -/
def stI (a : Int) : Int := (a / 48 + 1) * 48
set_option maxRecDepth 100000 in
theorem stop_any (a : Int) (h0 : 0 ≤ a) (h1 : a ≤ 1000000000000) (w : World) : Calls Tryz.prog 51 #[.int .i64 a] w fun e w' => e = .returned (.int .i64 (stI a)) ∧ w' = w := by
  have hd : a.tdiv 48 = a / 48 := Int.tdiv_eq_ediv_of_nonneg h0
  unfold stI
  go_enter Tryz.func51, Tryz.ntmps51
  go_wp2
  go_ret
  exact ⟨by first | rfl | (rw [hd]) | (simp [hd]), rfl⟩
end Go.Proofs.YthcphnifnfnceaaGreatDoor
