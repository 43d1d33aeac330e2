/-
  What is proved here: what plain, points, bad, awake and HyphKnown answer.
-/
import Derived.Test.YtfblhpkndfbhgaaDoorPlain
namespace Go.Proofs.YtfblhpkndfbhgaaDoor
open Go.RowKit Go.Shelf

/-- The places with odd values, by definition. -/
def oddV (ps : List Bs) (l : Bs) : List Int := ((List.range (l.length - 2)).filter (fun j => decide (2 ≤ j) && decide (valI ps (dot l) (j + 1) % 2 = 1))).map (fun j : Nat => (j : Int))
theorem oddL_val {ps : List Bs} (hp : ∀ p ∈ ps, ltrs p ≠ []) (l : Bs) : oddL (trie ps) l = oddV ps l := by
  unfold oddL oddV oddTo
  congr 1
  apply List.filter_congr
  intro j _
  rw [mats_is hp, Int.tmod_eq_emod_of_nonneg (valI_nonneg _ _ _)]
def ptV (ps xs : List Bs) (l : Bs) : List Int := if wordB l then (exE xs (low l)).getD (oddV ps (low l)) else []
theorem ptR_val {ps : List Bs} (hp : ps.all patB = true) (xs : List Bs) (l : Bs) : ptR (trie ps) (exE xs) l = ptV ps xs l := by
  unfold ptR ptV
  rw [oddL_val (fun p h => patB_ltrs (List.all_eq_true.1 hp p h))]

set_option maxRecDepth 100000 in
theorem new_any (v1 v2 : Value) (ps xs : List ByteArray) (w : World) (h1 : TxAt w v1 ps) (h2 : TxAt w v2 xs) (hp : ps.length ≤ 1000) (hx : xs.length ≤ 1000) (hxs : ∀ s ∈ xs, s.size ≤ 200) :
    Calls Tryd.prog 10 #[v1, v2] w fun e w' => Below w.heap.size w w' ∧ ((newI (ps.map bs) (xs.map bs) ≠ 0 ∧ e = .returned (.tuple #[.pointer none, .int .i64 (newI (ps.map bs) (xs.map bs))])) ∨
      (newI (ps.map bs) (xs.map bs) = 0 ∧ (ps.map bs).all patB = true ∧ ∃ hb N em M V, e = .returned (.tuple #[.pointer (some ⟨hb, 0, none⟩), .int .i64 0]) ∧ HyphAt w' w.heap.size hb (trie (ps.map bs)) (exE (xs.map bs)) N em M V)) := by
  by_cases hl : 256 < ps.length ∨ 64 < xs.length
  · refine (new_bad v1 v2 ps xs w h1 h2 hp hx hxs (hl.elim .inl (fun h => .inr (.inl h)))).mono ?_
    rintro e w' ⟨rfl, hb⟩
    have e1 : newI (ps.map bs) (xs.map bs) = 3 := by unfold newI; rw [List.length_map, List.length_map, if_pos hl]
    refine ⟨hb, .inl ⟨by rw [e1]; decide, ?_⟩⟩
    rw [e1, if_pos hl]
  · have e0 : newI (ps.map bs) (xs.map bs) = if ((ps.map bs).all patB && (xs.map bs).all excB) then (if freshB [] (xs.map bs) then 0 else 7) else 4 := by unfold newI; rw [List.length_map, List.length_map, if_neg hl]
    have ea : (ps.map bs).all patB = ps.all (fun s => patB (bs s)) := by rw [List.all_map]; rfl
    have eb : (xs.map bs).all excB = xs.all (fun s => excB (bs s)) := by rw [List.all_map]; rfl
    cases hg : (ps.all (fun s => patB (bs s)) && xs.all (fun s => excB (bs s))) with
    | false =>
      refine (new_bad v1 v2 ps xs w h1 h2 hp hx hxs (.inr (.inr hg))).mono ?_
      rintro e w' ⟨rfl, hb⟩
      rw [ea, eb, hg] at e0
      have e1 : newI (ps.map bs) (xs.map bs) = 4 := e0
      refine ⟨hb, .inl ⟨by rw [e1]; decide, ?_⟩⟩
      rw [e1, if_neg hl]
    | true =>
      rw [ea, eb, hg] at e0
      have hg' := hg
      rw [Bool.and_eq_true] at hg'
      refine (new_good v1 v2 ps xs w h1 h2 (by omega) (by omega) hxs hg'.1 hg'.2).mono ?_
      rintro e w' ⟨hb, hf⟩
      cases hfr : freshB [] (xs.map bs) with
      | true =>
        rw [hfr] at hf e0
        obtain ⟨hb', N, em, M, V, q1, q2, _⟩ := hf
        exact ⟨hb, .inr ⟨e0, by rw [ea]; exact hg'.1, hb', N, em, M, V, q1, q2⟩⟩
      | false =>
        rw [hfr] at hf e0
        have e1 : newI (ps.map bs) (xs.map bs) = 7 := e0
        refine ⟨hb, .inl ⟨by rw [e1]; decide, ?_⟩⟩
        rw [e1]; exact hf

set_option maxRecDepth 100000 in
set_option maxHeartbeats 1000000 in
theorem plainF_yes (s : ByteArray) (v : Value) (d : List Int) (w : World) (ht : Tab w) (hv : IntsAt w v d) (h0 : ptE (bs s) = 0) (h1 : ptV PP PX (bs s) = d) (hd : d.length ≤ 1000) : Calls Tryd.prog 20 #[.string s, v] w fun e w' => e = .returned (.bool true) ∧ Below w.heap.size w w' := by
  have hP := plain_any w ht
  have hQ : Hid (∀ w' hb N em M V, HyphAt w' w.heap.size hb (trie PP) (exE PX) N em M V → Calls Tryd.prog 14 #[.pointer (some ⟨hb, 0, none⟩), .string s] w' fun e w'' => ∃ x, e = .returned (.tuple #[x, .int .i64 0]) ∧ Below w'.heap.size w' w'' ∧ w''.ownsRow w'.heap.size 3 1 x d.length (ints d)) := fun w' hb N em M V h => by
    have := points_any h s
    rw [h0, ptR_val good_P, h1] at this
    exact this
  have hS : Hid (∀ w' x, Below w.heap.size w w' → ∀ b, w'.ownsRow b 3 1 x d.length (ints d) → Calls Tryd.prog 16 #[x, v] w' fun e w'' => e = .returned (.bool true) ∧ Below w'.heap.size w' w'') := fun w' x hb b hr => by
    have := same_any x v d d w' (ints_of_row hr) (hv.below hb (Nat.le_refl _)) (by omega)
    rwa [decide_eq_true rfl] at this
  have hPh : Hid (Calls Tryd.prog 17 #[] w fun e w' => Below w.heap.size w w' ∧ ∃ hb N em M V, e = .returned (.pointer (some ⟨hb, 0, none⟩)) ∧ HyphAt w' w.heap.size hb (trie PP) (exE PX) N em M V) := hP
  obtain ⟨av, cv, rfl, -⟩ := hv.ex
  clear hP hv h0 h1
  generalize d.length = n at *
  go_enter Tryd.func20, Tryd.ntmps20
  go_wp2_with (first | (go_at_call 17; refine hPh.out.mono ?_; rintro e w' ⟨hb1, hbk, N, em, M, V, rfl, hH⟩) | (go_at_call 14; refine (hQ.out _ _ _ _ _ _ hH).mono ?_; rintro e w'' ⟨x, rfl, hb2, hr⟩; obtain ⟨ax, cx, rfl⟩ := row_val hr) | (go_at_call 16; refine (hS.out _ _ (hb1.trans (hb2.mono hb1.size)) _ hr).mono ?_; rintro e w3 ⟨rfl, hb3⟩))
  go_ret
  exact ⟨rfl, (hb1.trans (hb2.mono hb1.size)).trans (hb3.mono (hb1.trans (hb2.mono hb1.size)).size)⟩

set_option maxRecDepth 100000 in
set_option maxHeartbeats 1000000 in
theorem pointsF_yes (v1 v2 : Value) (ps xs : List ByteArray) (s : ByteArray) (v : Value) (d : List Int) (w : World) (t1 : TxAt w v1 ps) (t2 : TxAt w v2 xs) (hp : ps.length ≤ 1000) (hx : xs.length ≤ 1000) (hxs : ∀ s ∈ xs, s.size ≤ 200) (hv : IntsAt w v d)
    (hn : newI (ps.map bs) (xs.map bs) = 0) (h0 : ptE (bs s) = 0) (h1 : ptV (ps.map bs) (xs.map bs) (bs s) = d) (hd : d.length ≤ 1000) : Calls Tryd.prog 21 #[v1, v2, .string s, v] w fun e w' => e = .returned (.bool true) ∧ Below w.heap.size w w' := by
  have hP : Hid (Calls Tryd.prog 10 #[v1, v2] w fun e w' => ∃ hb N em M V, e = .returned (.tuple #[.pointer (some ⟨hb, 0, none⟩), .int .i64 0]) ∧ Below w.heap.size w w' ∧ HyphAt w' w.heap.size hb (trie (ps.map bs)) (exE (xs.map bs)) N em M V ∧ (ps.map bs).all patB = true) := by
    refine (new_any v1 v2 ps xs w t1 t2 hp hx hxs).mono ?_
    rintro e w' ⟨hb, h | ⟨_, hg, hb', N, em, M, V, q1, q2⟩⟩
    · exact absurd hn h.1
    · exact ⟨hb', N, em, M, V, q1, hb, q2, hg⟩
  have hQ : Hid (∀ w' hb N em M V, HyphAt w' w.heap.size hb (trie (ps.map bs)) (exE (xs.map bs)) N em M V ∧ (ps.map bs).all patB = true → Calls Tryd.prog 14 #[.pointer (some ⟨hb, 0, none⟩), .string s] w' fun e w'' => ∃ x, e = .returned (.tuple #[x, .int .i64 0]) ∧ Below w'.heap.size w' w'' ∧ w''.ownsRow w'.heap.size 3 1 x d.length (ints d)) := fun w' hb N em M V h => by
    have := points_any h.1 s
    rw [h0, ptR_val h.2, h1] at this
    exact this
  have hS : Hid (∀ w' x, Below w.heap.size w w' → ∀ b, w'.ownsRow b 3 1 x d.length (ints d) → Calls Tryd.prog 16 #[x, v] w' fun e w'' => e = .returned (.bool true) ∧ Below w'.heap.size w' w'') := fun w' x hb b hr => by
    have := same_any x v d d w' (ints_of_row hr) (hv.below hb (Nat.le_refl _)) (by omega)
    rwa [decide_eq_true rfl] at this
  have hnil : ∀ b (w' : World), (binOp .eql 25 (.pointer (some ⟨b, 0, none⟩)) (.pointer none)).run Tryd.prog w' = .ok (.bool false) w' := fun b w' => run_eql_ptr_nil' w' ⟨b, 0, none⟩ Tryd.underlying25
  obtain ⟨av, cv, rfl, -⟩ := hv.ex
  obtain ⟨a1, c1, rfl, -⟩ := t1.ex
  obtain ⟨a2, c2, rfl, -⟩ := t2.ex
  clear hv h0 h1 hn t1 t2
  generalize d.length = n at *
  go_enter Tryd.func21, Tryd.ntmps21
  go_wp2_with (first | (go_at_call 10; refine hP.out.mono ?_; rintro e w' ⟨hbk, N, em, M, V, rfl, hb1, hH⟩; have hnl := hnil hbk w') | (go_at_call 14; refine (hQ.out _ _ _ _ _ _ hH).mono ?_; rintro e w'' ⟨x, rfl, hb2, hr⟩; obtain ⟨ax, cx, rfl⟩ := row_val hr) | (go_at_call 16; refine (hS.out _ _ (hb1.trans (hb2.mono hb1.size)) _ hr).mono ?_; rintro e w3 ⟨rfl, hb3⟩))
  go_ret
  exact ⟨rfl, (hb1.trans (hb2.mono hb1.size)).trans (hb3.mono (hb1.trans (hb2.mono hb1.size)).size)⟩

set_option maxRecDepth 100000 in
set_option maxHeartbeats 1000000 in
theorem badF_yes (v1 v2 : Value) (ps xs : List ByteArray) (c : Int) (w : World) (t1 : TxAt w v1 ps) (t2 : TxAt w v2 xs) (hp : ps.length ≤ 1000) (hx : xs.length ≤ 1000) (hxs : ∀ s ∈ xs, s.size ≤ 200)
    (hn : newI (ps.map bs) (xs.map bs) = c) (hc : c ≠ 0) : Calls Tryd.prog 22 #[v1, v2, .int .i64 c] w fun e w' => e = .returned (.bool true) ∧ Below w.heap.size w w' := by
  have hP : Hid (Calls Tryd.prog 10 #[v1, v2] w fun e w' => e = .returned (.tuple #[.pointer none, .int .i64 c]) ∧ Below w.heap.size w w') := by
    refine (new_any v1 v2 ps xs w t1 t2 hp hx hxs).mono ?_
    rintro e w' ⟨hb, h | ⟨h, _⟩⟩
    · rw [hn] at h; exact ⟨h.2, hb⟩
    · rw [hn] at h; exact absurd h hc
  obtain ⟨a1, c1, rfl, -⟩ := t1.ex
  obtain ⟨a2, c2, rfl, -⟩ := t2.ex
  clear hn t1 t2 hc
  go_enter Tryd.func22, Tryd.ntmps22
  go_wp2_with (go_at_call 10; refine hP.out.mono ?_; rintro e w' ⟨rfl, hb1⟩)
  go_ret
  exact ⟨rfl, hb1⟩

theorem tx_lit (w : World) (ss : List ByteArray) (cs : Array Value) (n : Nat) (hc : cs = (ss.map Value.string).toArray) (hn : n = ss.length) {z : Nat} (hz : z = w.heap.size) : TxAt (w.alloc (.cells cs 9)) (.slice (some ⟨z, 0, none⟩) n n) ss := by
  subst hc hn hz
  have h := rec_new (α := ByteArray) (k := 1) (f := fun s => [Value.string s]) (fun _ => rfl) w 9 ss
  rw [flat_one] at h; exact h
theorem int_lit (w : World) (d : List Int) (cs : Array Value) (n : Nat) (hc : cs = (ints d).toArray) (hn : n = d.length) {z : Nat} (hz : z = w.heap.size) : IntsAt (w.alloc (.cells cs 3)) (.slice (some ⟨z, 0, none⟩) n n) d := by
  subst hc hn hz
  have h := rec_new (α := Int) (k := 1) (f := fun x : Int => [Value.int .i64 x]) (fun _ => rfl) w 3 d
  rw [flat_one] at h; exact h
theorem tx_nil (w : World) : TxAt w (.slice none 0 0) [] := RecAt.nil w 0
theorem int_nil (w : World) : IntsAt w (.slice none 0 0) [] := RecAt.nil w 0
theorem below_one {w W : World} (h : Below w.heap.size w W) (o : Obj) : Below w.heap.size w (W.alloc o) := h.alloc h.size _
theorem TxAt.next {W : World} {v : Value} {ss : List ByteArray} (h : TxAt W v ss) (o : Obj) : TxAt (W.alloc o) v ss := h.below ((Below.refl _ _).alloc (Nat.le_refl _) _) (Nat.le_refl _)
theorem IntsAt.next {W : World} {v : Value} {d : List Int} (h : IntsAt W v d) (o : Obj) : IntsAt (W.alloc o) v d := h.below ((Below.refl _ _).alloc (Nat.le_refl _) _) (Nat.le_refl _)

end Go.Proofs.YtfblhpkndfbhgaaDoor
