/-
  What is proved here: what Clone answers of looks; what looks that nobody made answer.
-/
import Derived.Test.YtjakmekifpbldaaWalkN
namespace Go.Proofs.Ytjakmekifpbldaa
open Go.RowKit Go.Shelf

/-- Looks that nobody made. -/
def NotMade (p : Option Addr) (W : World) : Prop := p = none ∨ ∃ z, p = some ⟨z, 0, none⟩ ∧ W.heap[z]? = some (.cells #[.pointer none, .slice none 0 0, .int .i64 0, .int .i64 0, .int .i64 0] 46)
theorem NotMade.below {p : Option Addr} {W W' : World} (h : NotMade p W) (hb : Below W.heap.size W W') : NotMade p W' := by
  rcases h with rfl | ⟨z, rfl, hz⟩
  · exact .inl rfl
  · exact .inr ⟨z, rfl, (hb.block z (Array.getElem?_eq_some_iff.1 hz).1).trans hz⟩
theorem made_no (p : Option Addr) (w : World) (h : NotMade p w) : Calls Try.prog 34 #[.pointer p] w fun e w' => e = .returned (.bool false) ∧ w' = w := by
  rcases h with rfl | ⟨z, rfl, hz⟩
  · exact made_nil w
  · exact made_zero z w (by rw [Lib.cell_of_heap hz]; rfl)

set_option maxHeartbeats 400000 in
theorem insert_nil (p : Option Addr) (a b : Int) (w : World) (h : NotMade p w) : Calls Try.prog 21 #[.pointer p, .int .i64 a, .int .i64 b] w fun e w' => e = .returned (.int .i64 1) ∧ w' = w := by
  have hm := made_no p w h
  clear h
  go_enter Try.func21, Try.ntmps21
  go_wp2_with (go_at_call 34; refine hm.mono ?_; rintro e w' ⟨rfl, hww⟩; subst w')
  go_ret
  exact ⟨rfl, rfl⟩
set_option maxHeartbeats 400000 in
theorem delete_nil (p : Option Addr) (a b : Int) (w : World) (h : NotMade p w) : Calls Try.prog 22 #[.pointer p, .int .i64 a, .int .i64 b] w fun e w' => e = .returned (.int .i64 1) ∧ w' = w := by
  have hm := made_no p w h
  clear h
  go_enter Try.func22, Try.ntmps22
  go_wp2_with (go_at_call 34; refine hm.mono ?_; rintro e w' ⟨rfl, hww⟩; subst w')
  go_ret
  exact ⟨rfl, rfl⟩
set_option maxHeartbeats 400000 in
theorem set_nil (p : Option Addr) (a b : Int) (c : Ch) (w : World) (h : NotMade p w) : Calls Try.prog 23 #[.pointer p, .int .i64 a, .int .i64 b, chV c] w fun e w' => e = .returned (.int .i64 1) ∧ Below w.heap.size w w' := by
  have hB := (Below.refl w.heap.size w).alloc (Nat.le_refl _) (.cells #[.int .i64 c.s, .int .i64 c.t, .int .i64 c.k] 23)
  have hm := made_no p _ (h.below hB)
  clear h
  unfold chV
  go_enter Try.func23, Try.ntmps23
  go_wp2_with (go_at_call 34; refine hm.mono ?_; rintro e w' ⟨rfl, hww⟩; subst w')
  go_ret
  exact ⟨rfl, hB⟩
set_option maxHeartbeats 400000 in
theorem at_nil (p : Option Addr) (a : Int) (w : World) (h : NotMade p w) : Calls Try.prog 19 #[.pointer p, .int .i64 a] w fun e w' => e = .returned (.tuple #[chV ⟨0, 0, 0⟩, .int .i64 1]) ∧ Below w.heap.size w w' := by
  have hB := (Below.refl w.heap.size w).alloc (Nat.le_refl _) (.cells #[.int .i64 0, .int .i64 0, .int .i64 0] 23)
  have hm := made_no p _ (h.below hB)
  clear h
  unfold chV
  go_enter Try.func19, Try.ntmps19
  go_wp2_with (go_at_call 34; refine hm.mono ?_; rintro e w' ⟨rfl, hww⟩; subst w')
  refine bodyPost_ret (results_cell_row2 rfl _ _ w.heap.size 23 _ (0, 0) _ rfl (heap_new w _) Try.underlying23 rfl (by kernel_rfl)) rfl ?_
  exact ⟨rfl, hB⟩
set_option maxHeartbeats 400000 in
theorem slice_nil (p : Option Addr) (a b : Int) (w : World) (h : NotMade p w) : Calls Try.prog 20 #[.pointer p, .int .i64 a, .int .i64 b] w fun e w' => e = .returned (.tuple #[.slice none 0 0, .int .i64 1]) ∧ w' = w := by
  have hm := made_no p w h
  clear h
  go_enter Try.func20, Try.ntmps20
  go_wp2_with (go_at_call 34; refine hm.mono ?_; rintro e w' ⟨rfl, hww⟩; subst w')
  go_ret2
  exact ⟨rfl, rfl⟩
set_option maxHeartbeats 400000 in
theorem len_nil (p : Option Addr) (w : World) (h : NotMade p w) : Calls Try.prog 24 #[.pointer p] w fun e w' => e = .returned (.int .i64 0) ∧ w' = w := by
  have hm := made_no p w h
  clear h
  go_enter Try.func24, Try.ntmps24
  go_wp2_with (go_at_call 34; refine hm.mono ?_; rintro e w' ⟨rfl, hww⟩; subst w')
  go_ret
  exact ⟨rfl, rfl⟩
set_option maxHeartbeats 400000 in
theorem clone_nil (p : Option Addr) (w : World) (h : NotMade p w) : Calls Try.prog 12 #[.pointer p] w fun e w' => e = .returned (.pointer none) ∧ w' = w := by
  have hm := made_no p w h
  clear h
  go_enter Try.func12, Try.ntmps12
  go_wp2_with (go_at_call 34; refine hm.mono ?_; rintro e w' ⟨rfl, hww⟩; subst w')
  go_ret
  exact ⟨rfl, rfl⟩

def one : Ch := ⟨10, 0, 0⟩
def two : Ch := ⟨12, 0, 0⟩

/-- A list of spans by their lengths. -/
def ips (ps : List Sp) : List Ip := ps.map fun p => ((p.1 : Int), p.2)
theorem ips_length (ps : List Sp) : (ips ps).length = ps.length := by simp [ips]
theorem spans_rowAt {W : World} {base : Nat} {v : Value} {ps : List Sp} (h : RowAt W base 61 v ps) (hl : ∀ p ∈ ps, p.1 ≤ 9223372036854775807) (hf : ps.length ≤ 9223372036854775807) : SpansAt W v (ips ps) := by
  refine ⟨?_, fun q hq => ?_, by rw [ips_length]; exact hf⟩
  · rcases row_form h.out with ⟨h0, rfl⟩ | ⟨g, cap, hv, _, hg⟩
    · subst h0; exact ⟨none, 0, rfl, .inl rfl⟩
    · refine ⟨_, cap, by rw [ips_length]; exact hv, .inr ⟨g, 0, rfl, hg, fun i hi => ?_⟩⟩
      have hi' : i < ps.length := by rw [ips_length] at hi; exact hi
      have := row_cell h.out hv hi'
      simpa [ips] using this
  · obtain ⟨p, hp, rfl⟩ := List.mem_map.1 hq
    have := hl p hp
    exact ⟨by show (-9223372036854775808 : Int) ≤ (p.1 : Int); omega, by show (p.1 : Int) ≤ 9223372036854775807; omega⟩
theorem flat4 (l : List Ip) : (l.flatMap fun q => [Value.int .i64 q.1, .int .i64 q.2.s, .int .i64 q.2.t, .int .i64 q.2.k]).length = l.length * 4 := by
  induction l with
  | nil => rfl
  | cons p r ih => rw [List.flatMap_cons, List.length_append, ih]; simp; omega
/-- A list that was written out: one block of cells. -/
theorem spans_lit {W : World} {qs : List Ip} {cs : Array Value} (b : Nat) (hb : W.heap[b]? = some (.cells cs 61 (0, 0))) (hlit : cs.toList = qs.flatMap fun q => [.int .i64 q.1, .int .i64 q.2.s, .int .i64 q.2.t, .int .i64 q.2.k]) (hl : ∀ q ∈ qs, -9223372036854775808 ≤ q.1 ∧ q.1 ≤ 9223372036854775807) (hf : qs.length ≤ 9223372036854775807) : SpansAt W (.slice (some ⟨b, 0, none⟩) qs.length qs.length) qs := by
  refine ⟨⟨_, _, rfl, .inr ⟨b, 0, rfl, (Array.getElem?_eq_some_iff.1 hb).1, fun i hi => ?_⟩⟩, hl, hf⟩
  have hget : ∀ j, j < 4 → cs.toList[i * 4 + j]? = [Value.int .i64 qs[i].1, .int .i64 qs[i].2.s, .int .i64 qs[i].2.t, .int .i64 qs[i].2.k][j]? := fun j hj => by
    rw [hlit]
    have hs : qs = qs.take i ++ (qs[i] :: qs.drop (i + 1)) := by simp
    conv => lhs; rw [hs]
    rw [List.flatMap_append, List.flatMap_cons]
    have hlen : ((qs.take i).flatMap fun q => [Value.int .i64 q.1, .int .i64 q.2.s, .int .i64 q.2.t, .int .i64 q.2.k]).length = i * 4 := by
      rw [flat4, List.length_take, Nat.min_eq_left (by omega)]
    rw [List.getElem?_append_right (by omega), hlen, List.getElem?_append_left (by simp; omega)]
    congr 1; omega
  have hc : ∀ j, W.cell? ⟨b, j, none⟩ = cs.toList[j]? := fun j => by rw [Lib.cell_of_heap hb]; simp
  simp only [Nat.zero_add]
  exact ⟨(hc _).trans (hget 0 (by omega)), (hc _).trans (hget 1 (by omega)), (hc _).trans (hget 2 (by omega)), (hc _).trans (hget 3 (by omega))⟩

set_option maxHeartbeats 400000 in
theorem one_any (w : World) : Calls Try.prog 26 #[] w fun e w' => e = .returned (.agg #[.int .i64 10, .int .i64 0, .int .i64 0]) ∧ Below w.heap.size w w' := by
  go_enter Try.func26, Try.ntmps26
  go_wp2
  first
    | (go_ret; exact ⟨rfl, Below.refl _ _⟩)
    | (refine bodyPost_ret (results_cell_row rfl _ _ w.heap.size 23 _ (0, 0) _ rfl (heap_new w _) Try.underlying23 rfl (by kernel_rfl)) rfl ?_; exact ⟨rfl, (Below.refl _ w).alloc (Nat.le_refl _) _⟩)
set_option maxHeartbeats 400000 in
theorem two_any (w : World) : Calls Try.prog 29 #[] w fun e w' => e = .returned (.agg #[.int .i64 12, .int .i64 0, .int .i64 0]) ∧ Below w.heap.size w w' := by
  go_enter Try.func29, Try.ntmps29
  go_wp2
  first
    | (go_ret; exact ⟨rfl, Below.refl _ _⟩)
    | (refine bodyPost_ret (results_cell_row rfl _ _ w.heap.size 23 _ (0, 0) _ rfl (heap_new w _) Try.underlying23 rfl (by kernel_rfl)) rfl ?_; exact ⟨rfl, (Below.refl _ w).alloc (Nat.le_refl _) _⟩)

def spA : List Sp := [(1, one), (2, two), (1, one)]

set_option maxRecDepth 100000 in
set_option maxHeartbeats 4000000 in
theorem awake_any (w : World) : Calls Try.prog 25 #[] w fun e w' => e = .returned (.bool true) ∧ Below w.heap.size w w' := by
  have hnew := new_ok 4 one (by decide) (by decide)
  have hset := fun t sv W hW => set_ok t sv (List.replicate 4 one) one 1 2 two (by decide) (by decide) W hW
  have hsl := fun t sv W hW => slice_ok t sv (setL (List.replicate 4 one) 1 2 two) one 0 4 (by decide) (by decide) W hW
  have hr : rle (sub (setL (List.replicate 4 one) 1 2 two) 0 4) = spA := by decide
  rw [hr] at hsl
  clear hr
  have hnew' : ∀ W, Calls Try.prog 8 #[.int .i64 4, .agg #[.int .i64 10, .int .i64 0, .int .i64 0]] W _ := hnew
  have hset' : ∀ t sv W, LooksAt t sv (List.replicate 4 one) one W → Calls Try.prog 23 #[.pointer (some ⟨t, 0, none⟩), .int .i64 1, .int .i64 2, .agg #[.int .i64 12, .int .i64 0, .int .i64 0]] W fun e w' => ∃ sv', e = .returned (.int .i64 0) ∧ LooksAt t sv' (setL (List.replicate 4 one) 1 2 two) one w' ∧ Only t W w' ∧ ∀ g, sv'.ownBlock = some g → W.heap.size ≤ g := hset
  have hsl' : ∀ t sv W, LooksAt t sv (setL (List.replicate 4 one) 1 2 two) one W → Calls Try.prog 20 #[.pointer (some ⟨t, 0, none⟩), .int .i64 0, .int .i64 4] W fun e w' => ∃ v, e = .returned (.tuple #[v, .int .i64 0]) ∧ RowAt w' W.heap.size 61 v spA ∧ Below W.heap.size W w' := hsl
  clear hnew hset hsl
  generalize hL0 : List.replicate 4 one = L0 at *
  generalize hL1 : setL L0 1 2 two = L1 at *
  clear hL0 hL1
  go_enter Try.func25, Try.ntmps25
  go_wp2_with (go_at_call 26; refine (one_any _).mono ?_; rintro e w1 ⟨rfl, B1⟩)
  refine (hnew' w1).mono ?_
  rintro e w2 ⟨t, sv, rfl, htl, hL, B2⟩
  have C2 := B1.trans (B2.mono B1.size)
  go_wp2_with (go_at_call 29; refine (two_any _).mono ?_; rintro e w3 ⟨rfl, B3⟩)
  have hL3 := hL.below B3
  have C3 := C2.trans (B3.mono C2.size)
  refine (hset' t sv w3 hL3).mono ?_
  rintro e w4 ⟨sv4, rfl, hL4, O4, _⟩
  have C4 : Below w.heap.size w w4 := Only.below C3 (Nat.le_trans B1.size htl) (Nat.le_refl _) O4
  go_wp2_with fail
  refine (hsl' t sv4 w4 hL4).mono ?_
  rintro e w5 ⟨v5, rfl, r5, B5⟩
  have C5 := C4.trans (B5.mono C4.size)
  obtain ⟨a5, cp5, rfl⟩ := r5.form
  have hS5 : SpansAt w5 (.slice a5 spA.length cp5) (ips spA) := spans_rowAt r5 (by decide) (by decide)
  clear r5
  go_wp2_with fail
  refine (one_any _).mono ?_
  rintro e w6 ⟨rfl, B6⟩
  have C6 := C5.trans (B6.mono C5.size)
  go_wp2_with fail
  refine (two_any _).mono ?_
  rintro e w7 ⟨rfl, B7⟩
  have C7 := C6.trans (B7.mono C6.size)
  go_wp2_with fail
  refine (one_any _).mono ?_
  rintro e w8 ⟨rfl, B8⟩
  have C8 := C7.trans (B8.mono C7.size)
  have hS8 := ((hS5.below B6).below B7).below B8
  have hA := (Below.refl w8.heap.size w8).alloc (Nat.le_refl _) (Obj.cells #[.int .i64 1, .int .i64 10, .int .i64 0, .int .i64 0, .int .i64 2, .int .i64 12, .int .i64 0, .int .i64 0, .int .i64 1, .int .i64 10, .int .i64 0, .int .i64 0] 61)
  have hsp := spans_any _ _ (ips spA) (ips spA) _ (hS8.below hA) (spans_lit (qs := ips spA) w8.heap.size (heap_new w8 _) rfl (by decide) (by decide))
  rw [decide_eq_true rfl] at hsp
  go_wp2_with fail
  refine hsp.mono ?_
  rintro e w9 ⟨rfl, B9⟩
  go_wp2_with fail
  go_ret
  have C8' := C8.trans (hA.mono C8.size)
  exact ⟨rfl, C8'.trans (B9.mono C8'.size)⟩
end Go.Proofs.Ytjakmekifpbldaa
