/-
  What is proved here: what HyphTells calls, each of any world in which what it needs lies.
-/
import Derived.Test.YtfblhpkndfbhgaaDoorTellP
import Derived.Test.YtfblhpkndfbhgaaDoorTellC
namespace Go.Proofs.YtfblhpkndfbhgaaDoor
open Go.RowKit Go.Shelf

/-- What is lent lies as it was lent, and G holds. -/
def Sl (w : World) (ps xs : List ByteArray) (gb : Nat) (G : World → Prop) (W : World) : Prop :=
  Below w.heap.size w W ∧ w.heap.size < gb ∧ SBk W w.heap.size (ps ++ List.replicate 3 lentS) ∧ SBk W gb (xs ++ List.replicate 3 lentS) ∧ G W
/-- G stays where what is lent alone is written over. -/
def GS (w : World) (gb : Nat) (G : World → Prop) : Prop := ∀ W W', G W → Turns (fun k => k = w.heap.size ∨ k = gb) W W' → G W'
theorem lent_ok {ss : List ByteArray} (h : ∀ s ∈ ss, s.size ≤ 200) : ∀ x ∈ ss ++ List.replicate 3 lentS, x.size ≤ 1000 := by
  intro x hx
  rcases List.mem_append.1 hx with hx | hx
  · have := h x hx; omega
  · rw [(List.mem_replicate.1 hx).2]; decide
theorem lent_tx {W : World} {g : Nat} {ss : List ByteArray} (h : SBk W g (ss ++ List.replicate 3 lentS)) (hl : ss.length ≤ 300) : TxAt W (.slice (some ⟨g, 0, none⟩) ss.length (ss.length + 3)) ss := by
  have := h.tx ss.length (ss.length + 3) (by simp) (by unfold maxLen; omega) (by omega) (by simp)
  rwa [List.take_left'] at this
  rfl
section
variable {w : World} {ps xs : List ByteArray} {gb : Nat} {G : World → Prop}
theorem Sl.keep {W W' : World} (h : Sl w ps xs gb G W) (hG : GS w gb G) (hb : Below W.heap.size W W') : Sl w ps xs gb G W' := by
  obtain ⟨h1, h2, h3, h4, h5⟩ := h
  exact ⟨h1.trans (hb.mono h1.size), h2, h3.below hb h3.lt, h4.below hb h4.lt, hG _ _ h5 ((Turns.of_below hb).mono (fun _ h => h.elim))⟩
theorem kept_a {v1 : Value} (t1 : TxAt w v1 ps) (hl : ps.length ≤ 300) (hG : GS w gb G) (W : World) (h : Sl w ps xs gb G W) :
    Calls Tryd.prog 12 #[.slice (some ⟨w.heap.size, 0, none⟩) ps.length (ps.length + 3), v1] W fun e w' => e = .returned (.bool true) ∧ Sl w ps xs gb G w' := by
  refine (kept_any w.heap.size v1 ps hl W h.2.2.1 (t1.below h.1 (Nat.le_refl _))).mono ?_
  rintro e w' ⟨rfl, hb⟩
  exact ⟨rfl, h.keep hG hb⟩
theorem kept_b {v2 : Value} (t2 : TxAt w v2 xs) (hl : xs.length ≤ 300) (hG : GS w gb G) (W : World) (h : Sl w ps xs gb G W) :
    Calls Tryd.prog 12 #[.slice (some ⟨gb, 0, none⟩) xs.length (xs.length + 3), v2] W fun e w' => e = .returned (.bool true) ∧ Sl w ps xs gb G w' := by
  refine (kept_any gb v2 xs hl W h.2.2.2.1 (t2.below h.1 (Nat.le_refl _))).mono ?_
  rintro e w' ⟨rfl, hb⟩
  exact ⟨rfl, h.keep hG hb⟩
theorem over_a (hl : ps.length ≤ 300) (hs : ∀ s ∈ ps, s.size ≤ 200) (hG : GS w gb G) (W : World) (h : Sl w ps xs gb G W) :
    Calls Tryd.prog 13 #[.slice (some ⟨w.heap.size, 0, none⟩) ps.length (ps.length + 3)] W fun e w' => e = .returned (.tuple #[]) ∧ Below w.heap.size w w' ∧ w.heap.size < gb ∧ SBk w' gb (xs ++ List.replicate 3 lentS) ∧ G w' := by
  obtain ⟨h1, h2, h3, h4, h5⟩ := h
  refine (over_any w.heap.size ps.length _ (by simp) (by simp; omega) (lent_ok hs) W h3).mono ?_
  rintro e w' ⟨rfl, ht⟩
  exact ⟨rfl, h1.trans (ht.below h1.size (fun k hk => by omega)), h2, h4.turns ht (by omega), hG _ _ h5 (ht.mono (fun _ h => .inl h))⟩
theorem over_b (hl : xs.length ≤ 300) (hs : ∀ s ∈ xs, s.size ≤ 200) (hG : GS w gb G) (W : World) (h : Below w.heap.size w W ∧ w.heap.size < gb ∧ SBk W gb (xs ++ List.replicate 3 lentS) ∧ G W) :
    Calls Tryd.prog 13 #[.slice (some ⟨gb, 0, none⟩) xs.length (xs.length + 3)] W fun e w' => e = .returned (.tuple #[]) ∧ Below w.heap.size w w' ∧ G w' := by
  obtain ⟨h1, h2, h4, h5⟩ := h
  refine (over_any gb xs.length _ (by simp) (by simp; omega) (lent_ok hs) W h4).mono ?_
  rintro e w' ⟨rfl, ht⟩
  exact ⟨rfl, h1.trans (ht.below h1.size (fun k hk => by omega)), hG _ _ h5 (ht.mono (fun _ h => .inr h))⟩
end
/-- A hyph of the program's, behind a place. -/
def HG (gb hb : Nat) (P X : List Bs) (W : World) : Prop := ∃ base N em M V, gb < base ∧ HyphAt W base hb (trie P) (exE X) N em M V
def RG (gb m : Nat) (ps xs : List ByteArray) (W : World) : Prop := ∃ base, gb < base ∧ RH W base m ps xs
theorem HG.gs {w : World} {gb hb : Nat} (hg : w.heap.size < gb) (P X : List Bs) : GS w gb (HG gb hb P X) := by
  rintro W W' ⟨base, N, em, M, V, h1, h2⟩ ht
  refine ⟨base, N, em, M, V, h1, h2.turns ht (fun k hk ho => ?_)⟩
  have := h2.young k ho
  rcases hk with rfl | rfl <;> omega
theorem RG.gs {w : World} {gb m : Nat} (hg : w.heap.size < gb) (ps xs : List ByteArray) : GS w gb (RG gb m ps xs) := by
  rintro W W' ⟨base, h1, h2⟩ ht
  exact ⟨base, h1, h2.turns ht (fun k hk => by rcases hk with rfl | rfl <;> omega)⟩
theorem true_gs (w : World) (gb : Nat) : GS w gb (fun _ => True) := fun _ _ _ _ => trivial
theorem and_gs {w : World} {gb : Nat} {G G' : World → Prop} (h : GS w gb G) (h' : GS w gb G') : GS w gb (fun W => G W ∧ G' W) := fun W W' hh ht => ⟨h W W' hh.1 ht, h' W W' hh.2 ht⟩
section
variable {w : World} {ps xs : List ByteArray} {v1 v2 : Value} (t1 : TxAt w v1 ps) (t2 : TxAt w v2 xs) (hl1 : ps.length ≤ 300) (hl2 : xs.length ≤ 300) (hs2 : ∀ s ∈ xs, s.size ≤ 200)
include t1 hl1 in
theorem lend_a : Calls Tryd.prog 9 #[v1] w fun e w' => e = .returned (.slice (some ⟨w.heap.size, 0, none⟩) ps.length (ps.length + 3)) ∧ Below w.heap.size w w' ∧ SBk w' w.heap.size (ps ++ List.replicate 3 lentS) := lent_any v1 ps hl1 w t1
include t2 hl2 in
theorem lend_b (W : World) (h : Below w.heap.size w W ∧ SBk W w.heap.size (ps ++ List.replicate 3 lentS)) : Calls Tryd.prog 9 #[v2] W fun e w' => ∃ gb, e = .returned (.slice (some ⟨gb, 0, none⟩) xs.length (xs.length + 3)) ∧ Sl w ps xs gb (fun _ => True) w' := by
  refine (lent_any v2 xs hl2 W (t2.below h.1 (Nat.le_refl _))).mono ?_
  rintro e w' ⟨rfl, hb, hS⟩
  exact ⟨_, rfl, h.1.trans (hb.mono h.1.size), h.2.lt, h.2.below hb h.2.lt, hS, trivial⟩
include hl1 hl2 hs2 in
theorem new_t (gb : Nat) (W : World) (h : Sl w ps xs gb (fun _ => True) W) : Calls Tryd.prog 10 #[.slice (some ⟨w.heap.size, 0, none⟩) ps.length (ps.length + 3), .slice (some ⟨gb, 0, none⟩) xs.length (xs.length + 3)] W fun e w' =>
    (newI (ps.map bs) (xs.map bs) ≠ 0 ∧ e = .returned (.tuple #[.pointer none, .int .i64 (newI (ps.map bs) (xs.map bs))]) ∧ Sl w ps xs gb (fun _ => True) w') ∨
    (newI (ps.map bs) (xs.map bs) = 0 ∧ (ps.map bs).all patB = true ∧ ∃ hb, e = .returned (.tuple #[.pointer (some ⟨hb, 0, none⟩), .int .i64 0]) ∧ Sl w ps xs gb (HG gb hb (ps.map bs) (xs.map bs)) w') := by
  refine (new_any _ _ ps xs W (lent_tx h.2.2.1 hl1) (lent_tx h.2.2.2.1 hl2) (by omega) (by omega) hs2).mono ?_
  rintro e w' ⟨hb, ⟨hn, rfl⟩ | ⟨hn, hg, hbb, N, em, M, V, rfl, hH⟩⟩
  · exact .inl ⟨hn, rfl, h.keep (true_gs _ _) hb⟩
  · obtain ⟨k1, k2, k3, k4, -⟩ := h.keep (true_gs _ _) hb
    exact .inr ⟨hn, hg, hbb, rfl, k1, k2, k3, k4, _, N, em, M, V, h.2.2.2.1.lt, hH⟩
include t1 t2 hl1 hl2 hs2 in
theorem rnew_t (gb : Nat) (G : World → Prop) (hG : GS w gb G) (W : World) (h : Sl w ps xs gb G W) : Calls Tryd.prog 11 #[v1, v2] W fun e w' =>
    (newI (ps.map bs) (xs.map bs) ≠ 0 ∧ e = .returned (.tuple #[.pointer none, .int .i64 (newI (ps.map bs) (xs.map bs))]) ∧ Sl w ps xs gb G w') ∨
    (newI (ps.map bs) (xs.map bs) = 0 ∧ ((ps.map bs).all patB = true ∧ (xs.map bs).all excB = true ∧ freshB [] (xs.map bs) = true) ∧ ∃ m, e = .returned (.tuple #[.pointer (some ⟨m, 0, none⟩), .int .i64 0]) ∧ Sl w ps xs gb (fun W => G W ∧ RG gb m ps xs W) w') := by
  refine (rnew_any v1 v2 ps xs W (t1.below h.1 (Nat.le_refl _)) (t2.below h.1 (Nat.le_refl _)) (by omega) (by omega) hs2).mono ?_
  rintro e w' ⟨hb, ⟨hn, rfl⟩ | ⟨hn, hg, m, rfl, hR⟩⟩
  · exact .inl ⟨hn, rfl, h.keep hG hb⟩
  · obtain ⟨k1, k2, k3, k4, k5⟩ := h.keep hG hb
    exact .inr ⟨hn, hg, m, rfl, k1, k2, k3, k4, k5, _, h.2.2.2.1.lt, hR⟩
end
/-- A hyph of the program's, a one of the document's. -/
def HQ (hb : Nat) (P X : List Bs) (W : World) : Prop := ∃ base N em M V, HyphAt W base hb (trie P) (exE X) N em M V
def RQ (m : Nat) (ps xs : List ByteArray) (W : World) : Prop := ∃ base, RH W base m ps xs
theorem RQ.keep {m : Nat} {ps xs : List ByteArray} (W W' : World) (h : RQ m ps xs W) (hb : Below W.heap.size W W') : RQ m ps xs W' := by
  obtain ⟨base, h⟩ := h
  exact ⟨base, h.below hb⟩
/-- A word's points lie there. -/
def Pt (w : World) (v : Value) (d : List Int) (G : World → Prop) (W : World) : Prop := Below w.heap.size w W ∧ IntsAt W v d ∧ G W
theorem hpoints_t {w : World} {hb : Nat} {P X : List Bs} (hg : P.all patB = true) (s : ByteArray) (G : World → Prop) (hG : ∀ W W', G W → Below W.heap.size W W' → G W') (W : World) (h : Below w.heap.size w W ∧ HQ hb P X W ∧ G W) :
    Calls Tryd.prog 14 #[.pointer (some ⟨hb, 0, none⟩), .string s] W fun e w' => ∃ v, e = .returned (.tuple #[v, .int .i64 (ptE (bs s))]) ∧ Pt w v (ptV P X (bs s)) G w' := by
  obtain ⟨h1, ⟨base, N, em, M, V, h2⟩, h3⟩ := h
  have := points_any h2 s
  rw [ptR_val hg] at this
  refine this.mono ?_
  rintro e w' ⟨v, rfl, hb, hr⟩
  exact ⟨v, rfl, h1.trans (hb.mono h1.size), ints_of_row hr, hG _ _ h3 hb⟩
theorem rpoints_t {w : World} {m : Nat} {ps xs : List ByteArray} (hp : ps.length ≤ 1000) (hx : xs.length ≤ 1000) (hgp : (ps.map bs).all patB = true) (hgx : (xs.map bs).all excB = true) (hfr : freshB [] (xs.map bs) = true) (s : ByteArray) (hs : s.size ≤ maxLen) (v : Value) (d : List Int) (W : World) (h : Pt w v d (RQ m ps xs) W) :
    Calls Tryd.prog 15 #[.pointer (some ⟨m, 0, none⟩), .string s] W fun e w' => ∃ v2, e = .returned (.tuple #[v2, .int .i64 (ptE (bs s))]) ∧ Pt w v d (fun W => IntsAt W v2 (ptV (ps.map bs) (xs.map bs) (bs s))) w' := by
  obtain ⟨h1, h2, ⟨base, h3⟩⟩ := h
  refine (rpoints_any h3 hp hx hgp hgx hfr s hs).mono ?_
  rintro e w' ⟨v2, rfl, hb, hr⟩
  exact ⟨v2, rfl, h1.trans (hb.mono h1.size), h2.below hb (Nat.le_refl _), ints_of_row hr⟩
theorem same_t {w : World} {v v2 : Value} {d : List Int} (hd : d.length ≤ 1000000) (W : World) (h : Pt w v d (fun W => IntsAt W v2 d) W) : Calls Tryd.prog 16 #[v, v2] W fun e w' => e = .returned (.bool true) ∧ Below w.heap.size w w' := by
  obtain ⟨h1, h2, h3⟩ := h
  have := same_any v v2 d d W h2 h3 hd
  rw [decide_eq_true rfl] at this
  refine this.mono ?_
  rintro e w' ⟨rfl, hb⟩
  exact ⟨rfl, h1.trans (hb.mono h1.size)⟩
theorem plain_t {w : World} (ht : Tab w) (W : World) (h : Below w.heap.size w W) : Calls Tryd.prog 17 #[] W fun e w' => ∃ hb, e = .returned (.pointer (some ⟨hb, 0, none⟩)) ∧ (Below w.heap.size w w' ∧ HQ hb PP PX w' ∧ True) := by
  refine (plain_any W (ht.below h)).mono ?_
  rintro e w' ⟨hb, hbb, N, em, M, V, rfl, hH⟩
  exact ⟨hbb, rfl, h.trans (hb.mono h.size), ⟨W.heap.size, N, em, M, V, hH⟩, trivial⟩
theorem rplain_t {w : World} {v : Value} {d : List Int} (W : World) (h : Pt w v d (fun _ => True) W) : Calls Tryd.prog 18 #[] W fun e w' => ∃ m, e = .returned (.pointer (some ⟨m, 0, none⟩)) ∧ Pt w v d (RQ m (tx PP) (tx PX)) w' := by
  obtain ⟨h1, h2, -⟩ := h
  refine (rplain_any W).mono ?_
  rintro e w' ⟨m, rfl, hb, hR⟩
  exact ⟨m, rfl, h1.trans (hb.mono h1.size), h2.below hb (Nat.le_refl _), hR⟩
theorem awake_t {w : World} (ht : Tab w) (W : World) (h : Below w.heap.size w W) : Calls Tryd.prog 19 #[] W fun e w' => e = .returned (.bool true) ∧ Below w.heap.size w w' := by
  refine (awake_any W (ht.below h)).mono ?_
  rintro e w' ⟨rfl, hb⟩
  exact ⟨rfl, h.trans (hb.mono h.size)⟩
end Go.Proofs.YtfblhpkndfbhgaaDoor
