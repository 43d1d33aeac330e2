/-
  What is proved here: what a text that is nil, or that nobody made, answers.
-/
import Derived.Test.YtpippmbkdjcbeaaWalkI
namespace Go.Proofs.Ytpippmbkdjcbeaa
open Go.RowKit Go.Shelf
attribute [local go_sem] Oper.semAt_some wide_fn wide_depth

/-- A text that is nil, or that nobody made. -/
def NotMade (p : Option Addr) (W : World) : Prop := p = none ∨ ∃ t, p = some ⟨t, 0, none⟩ ∧ W.heap[t]? = some (.cells #[.pointer none, .slice none 0 0] 25)

theorem NotMade.turns {p : Option Addr} {W W' : World} {own : Nat → Prop} (h : NotMade p W) (ht : Turns own W W') (ho : ∀ k, own k → W.heap.size ≤ k) : NotMade p W' := by
  rcases h with h | ⟨t, h, hh⟩
  · exact .inl h
  · have hlt := (Array.getElem?_eq_some_iff.1 hh).1
    exact .inr ⟨t, h, (ht.block t hlt (fun hx => by have := ho t hx; omega)).trans hh⟩
theorem NotMade.below {p : Option Addr} {W W' : World} (h : NotMade p W) (hb : Below W.heap.size W W') : NotMade p W' := h.turns (Turns.of_below hb) (fun _ h => h.elim)

theorem made_no (p : Option Addr) (w : World) (h : NotMade p w) : Calls Try.prog 21 #[.pointer p] w fun e w' => e = .returned (.bool false) ∧ w' = w := by
  rcases h with rfl | ⟨t, rfl, hh⟩
  · exact made_nil w
  · exact made_zero t w (by rw [Lib.cell_of_heap hh]; rfl)

set_option maxRecDepth 100000 in
set_option maxHeartbeats 1000000 in
theorem walk1_none (Bt : Nat) (p : Option Addr) (enc : Nat → Array Value) :
    Gives Try.prog 37 #[.pointer (some ⟨Bt, 0, none⟩)] 0 enc (fun W => W.heap[Bt]? = some (.cells #[.pointer p] 22) ∧ NotMade p W) := by
  intro l J Jx W hJ hJx hRd hY h0
  have hr := hRd _ _ _ h0
  have hb0 : W.cell? ⟨Bt, 0, none⟩ = some (.pointer p) := by rw [Lib.cell_of_heap hr.1]; rfl
  refine callsIn_wide (n := 0).1 ?_
  refine callsIn_of_wp Try.func37 rfl trivial ?_ rfl
  simp only [Try.ntmps37, List.size_toArray, List.length_cons, List.length_nil, Nat.reduceAdd, Nat.reduceSub, Array.replicate_succ, Array.replicate_zero, List.push_toArray, List.append_toArray, List.nil_append, List.cons_append]
  gi_wp2_with (gi_at_call 21; refine (callsIn_wide.2 (made_no _ _ hr.2)).mono ?_; rintro e w' ⟨rfl, hww⟩; subst w')
  refine bodyPost_ret (results_none rfl _ _ _) rfl ?_
  exact ⟨⟨_, rfl⟩, .inl h0⟩

theorem allocs3 (w : World) (a b c : Obj) : (((w.alloc a).alloc b).alloc c).heap[w.heap.size]? = some a ∧ (((w.alloc a).alloc b).alloc c).heap[w.heap.size + 1]? = some b ∧ (((w.alloc a).alloc b).alloc c).heap[w.heap.size + 1 + 1]? = some c := by
  refine ⟨?_, ?_, ?_⟩ <;> (show (((w.heap.push a).push b).push c)[_]? = _; simp only [Array.getElem?_push, Array.size_push]; repeat (first | rw [if_pos trivial] | rw [if_pos (by omega)] | rw [if_neg (by omega)]))

set_option maxRecDepth 100000 in
set_option maxHeartbeats 1000000 in
theorem len_none (p : Option Addr) (w : World) (hN : NotMade p w) :
    Calls Try.prog 13 #[.pointer p] w fun e w' => e = .returned (.int .i64 0) ∧ Below w.heap.size w w' := by
  refine callsIn_wide (n := 0).1 ?_
  refine callsIn_of_wp_marks Try.func13 rfl trivial ?_ rfl
  simp only [Try.ntmps13, List.size_toArray, List.length_cons, List.length_nil, Nat.reduceAdd, Nat.reduceSub, Array.replicate_succ, Array.replicate_zero, List.push_toArray, List.append_toArray, List.nil_append, List.cons_append]
  gi_wp2_with (gi_at_call 23; refine (callsIn_wide.2 (walk_any _ _)).mono ?_; rintro e w' ⟨rfl, rfl⟩)
  obtain ⟨w1, hw1⟩ : ∃ w1, (w.alloc (.cells #[.int .i64 0] 3)).alloc (.cells #[.pointer p] 22) = w1 := ⟨_, rfl⟩
  have hs1 : w1.heap.size = w.heap.size + 2 := by rw [← hw1]; simp
  have hT1 : Turns Noth w w1 := by rw [← hw1]; exact (Turns.alloc _ _ _).trans (Turns.alloc _ _ _)
  have hB1 : w1.heap[w.heap.size]? = some (.cells #[.int .i64 0] 3) := by rw [← hw1]; exact (Below.heap_alloc _ _ _ (by simp)).trans (World.alloc_heap_new w _)
  have hB2 : w1.heap[w.heap.size + 1]? = some (.cells #[.pointer p] 22) := by rw [← hw1]; have := World.alloc_heap_new (w.alloc (.cells #[.int .i64 0] 3)) (.cells #[.pointer p] 22); rwa [World.size_alloc] at this
  have hN1 := hN.turns hT1 (fun _ h => h.elim)
  rw [hw1]
  refine wp_range (gf := 37) (lb := #[.pointer (some ⟨w.heap.size + 1, 0, none⟩)]) rfl (enters_of Try.func37 (by kernel_rfl) rfl) (walk1_none (w.heap.size + 1) p (fun _ => #[undef, undef])) (fun _ => rfl)
    (fun _ X W => Base w1 Noth X W) (fun _ _ _ _ => False) (fun _ _ _ _ => False)
    (steady_base _ _) (fun _ => steady_never) (fun _ => steady_never) ?hR (Base.start _ _) (fun _ _ _ _ _ hi => absurd hi (Nat.not_lt_zero _)) (fun _ _ _ _ _ hi => absurd hi (Nat.not_lt_zero _)) ?done (fun _ _ _ _ _ hi => absurd hi (Nat.not_lt_zero _))
  case hR =>
    rintro i X W hb
    exact ⟨(hb.turns.block _ (by omega) (fun h => h)).trans hB2, hN1.turns hb.turns (fun _ h => h.elim)⟩
  case done =>
    rintro D W hD hb hK
    have hc0 : W.cell? ⟨w.heap.size, 0, none⟩ = some (.int .i64 0) := by rw [Lib.cell_of_heap ((hb.turns.block _ (by omega) (fun h => h)).trans hB1)]; rfl
    gi_wp2
    refine ⟨by simp, .inl ⟨_, _, rfl, run_takeDeferred hK, ?_⟩⟩
    exact ⟨_, results_tmp rfl _ _ _, rfl, below_end hT1 hb (fun k h => h.elim) _⟩

set_option maxRecDepth 100000 in
set_option maxHeartbeats 1000000 in
theorem pieces_none (p : Option Addr) (w : World) (hN : NotMade p w) :
    Calls Try.prog 14 #[.pointer p] w fun e w' => e = .returned (.int .i64 0) ∧ Below w.heap.size w w' := by
  refine callsIn_wide (n := 0).1 ?_
  refine callsIn_of_wp_marks Try.func14 rfl trivial ?_ rfl
  simp only [Try.ntmps14, List.size_toArray, List.length_cons, List.length_nil, Nat.reduceAdd, Nat.reduceSub, Array.replicate_succ, Array.replicate_zero, List.push_toArray, List.append_toArray, List.nil_append, List.cons_append]
  gi_wp2_with (gi_at_call 23; refine (callsIn_wide.2 (walk_any _ _)).mono ?_; rintro e w' ⟨rfl, rfl⟩)
  obtain ⟨w1, hw1⟩ : ∃ w1, (w.alloc (.cells #[.int .i64 0] 3)).alloc (.cells #[.pointer p] 22) = w1 := ⟨_, rfl⟩
  have hs1 : w1.heap.size = w.heap.size + 2 := by rw [← hw1]; simp
  have hT1 : Turns Noth w w1 := by rw [← hw1]; exact (Turns.alloc _ _ _).trans (Turns.alloc _ _ _)
  have hB1 : w1.heap[w.heap.size]? = some (.cells #[.int .i64 0] 3) := by rw [← hw1]; exact (Below.heap_alloc _ _ _ (by simp)).trans (World.alloc_heap_new w _)
  have hB2 : w1.heap[w.heap.size + 1]? = some (.cells #[.pointer p] 22) := by rw [← hw1]; have := World.alloc_heap_new (w.alloc (.cells #[.int .i64 0] 3)) (.cells #[.pointer p] 22); rwa [World.size_alloc] at this
  have hN1 := hN.turns hT1 (fun _ h => h.elim)
  rw [hw1]
  refine wp_range (gf := 37) (lb := #[.pointer (some ⟨w.heap.size + 1, 0, none⟩)]) rfl (enters_of Try.func37 (by kernel_rfl) rfl) (walk1_none (w.heap.size + 1) p (fun _ => #[undef, undef])) (fun _ => rfl)
    (fun _ X W => Base w1 Noth X W) (fun _ _ _ _ => False) (fun _ _ _ _ => False)
    (steady_base _ _) (fun _ => steady_never) (fun _ => steady_never) ?hR (Base.start _ _) (fun _ _ _ _ _ hi => absurd hi (Nat.not_lt_zero _)) (fun _ _ _ _ _ hi => absurd hi (Nat.not_lt_zero _)) ?done (fun _ _ _ _ _ hi => absurd hi (Nat.not_lt_zero _))
  case hR =>
    rintro i X W hb
    exact ⟨(hb.turns.block _ (by omega) (fun h => h)).trans hB2, hN1.turns hb.turns (fun _ h => h.elim)⟩
  case done =>
    rintro D W hD hb hK
    have hc0 : W.cell? ⟨w.heap.size, 0, none⟩ = some (.int .i64 0) := by rw [Lib.cell_of_heap ((hb.turns.block _ (by omega) (fun h => h)).trans hB1)]; rfl
    gi_wp2
    refine ⟨by simp, .inl ⟨_, _, rfl, run_takeDeferred hK, ?_⟩⟩
    exact ⟨_, results_tmp rfl _ _ _, rfl, below_end hT1 hb (fun k h => h.elim) _⟩

set_option maxRecDepth 100000 in
set_option maxHeartbeats 1000000 in
theorem count_none (p : Option Addr) (c : Int) (w : World) (hN : NotMade p w) :
    Calls Try.prog 12 #[.pointer p, .int .u8 c] w fun e w' => e = .returned (.int .i64 0) ∧ Below w.heap.size w w' := by
  refine callsIn_wide (n := 0).1 ?_
  refine callsIn_of_wp_marks Try.func12 rfl trivial ?_ rfl
  simp only [Try.ntmps12, List.size_toArray, List.length_cons, List.length_nil, Nat.reduceAdd, Nat.reduceSub, Array.replicate_succ, Array.replicate_zero, List.push_toArray, List.append_toArray, List.nil_append, List.cons_append]
  gi_wp2_with (gi_at_call 23; refine (callsIn_wide.2 (walk_any _ _)).mono ?_; rintro e w' ⟨rfl, rfl⟩)
  obtain ⟨w1, hw1⟩ : ∃ w1, ((w.alloc (.cells #[.int .u8 c] 5)).alloc (.cells #[.int .i64 0] 3)).alloc (.cells #[.pointer p] 22) = w1 := ⟨_, rfl⟩
  have hs1 : w1.heap.size = w.heap.size + 3 := by rw [← hw1]; simp
  have hT1 : Turns Noth w w1 := by rw [← hw1]; exact ((Turns.alloc _ _ _).trans (Turns.alloc _ _ _)).trans (Turns.alloc _ _ _)
  obtain ⟨_, hB1, hB2⟩ := allocs3 w (.cells #[.int .u8 c] 5) (.cells #[.int .i64 0] 3) (.cells #[.pointer p] 22)
  rw [hw1] at hB1 hB2
  have hN1 := hN.turns hT1 (fun _ h => h.elim)
  rw [hw1]
  refine wp_range (gf := 37) (lb := #[.pointer (some ⟨w.heap.size + 1 + 1, 0, none⟩)]) rfl (enters_of Try.func37 (by kernel_rfl) rfl) (walk1_none (w.heap.size + 1 + 1) p (fun _ => #[undef, undef])) (fun _ => rfl)
    (fun _ X W => Base w1 Noth X W) (fun _ _ _ _ => False) (fun _ _ _ _ => False)
    (steady_base _ _) (fun _ => steady_never) (fun _ => steady_never) ?hR (Base.start _ _) (fun _ _ _ _ _ hi => absurd hi (Nat.not_lt_zero _)) (fun _ _ _ _ _ hi => absurd hi (Nat.not_lt_zero _)) ?done (fun _ _ _ _ _ hi => absurd hi (Nat.not_lt_zero _))
  case hR =>
    rintro i X W hb
    exact ⟨(hb.turns.block _ (by omega) (fun h => h)).trans hB2, hN1.turns hb.turns (fun _ h => h.elim)⟩
  case done =>
    rintro D W hD hb hK
    have hc0 : W.cell? ⟨w.heap.size + 1, 0, none⟩ = some (.int .i64 0) := by rw [Lib.cell_of_heap ((hb.turns.block _ (by omega) (fun h => h)).trans hB1)]; rfl
    gi_wp2
    refine ⟨by simp, .inl ⟨_, _, rfl, run_takeDeferred hK, ?_⟩⟩
    exact ⟨_, results_tmp rfl _ _ _, rfl, below_end hT1 hb (fun k h => h.elim) _⟩

set_option maxHeartbeats 400000 in
theorem slice_none (p : Option Addr) (f o : Int) (w : World) (hN : NotMade p w) :
    Calls Try.prog 7 #[.pointer p, .int .i64 f, .int .i64 o] w fun e w' => e = .returned (.tuple #[.string ⟨#[]⟩, .int .i64 1]) ∧ w' = w := by
  go_enter Try.func7, Try.ntmps7
  go_wp2_with (go_at_call 21; refine (made_no _ _ hN).mono ?_; rintro e w' ⟨rfl, hww⟩; subst w')
  go_ret2
  exact ⟨rfl, rfl⟩

set_option maxHeartbeats 400000 in
theorem insert_nil (p : Option Addr) (a : Int) (s : ByteArray) (w : World) (hN : NotMade p w) :
    Calls Try.prog 9 #[.pointer p, .int .i64 a, .string s] w fun e w' => e = .returned (.int .i64 1) ∧ w' = w := by
  go_enter Try.func9, Try.ntmps9
  go_wp2_with (go_at_call 21; refine (made_no _ _ hN).mono ?_; rintro e w' ⟨rfl, hww⟩; subst w')
  go_ret
  exact ⟨rfl, rfl⟩

set_option maxHeartbeats 400000 in
theorem delete_nil (p : Option Addr) (a n : Int) (w : World) (hN : NotMade p w) :
    Calls Try.prog 10 #[.pointer p, .int .i64 a, .int .i64 n] w fun e w' => e = .returned (.int .i64 1) ∧ w' = w := by
  go_enter Try.func10, Try.ntmps10
  go_wp2_with (go_at_call 21; refine (made_no _ _ hN).mono ?_; rintro e w' ⟨rfl, hww⟩; subst w')
  go_ret
  exact ⟨rfl, rfl⟩

set_option maxHeartbeats 400000 in
theorem clone_nil (p : Option Addr) (w : World) (hN : NotMade p w) :
    Calls Try.prog 15 #[.pointer p] w fun e w' => e = .returned (.pointer none) ∧ w' = w := by
  refine callsIn_wide (n := 0).1 ?_
  refine callsIn_of_wp_marks Try.func15 rfl trivial ?_ rfl
  simp only [Try.ntmps15, List.size_toArray, List.length_cons, List.length_nil, Nat.reduceAdd, Nat.reduceSub, Array.replicate_succ, Array.replicate_zero, List.push_toArray, List.append_toArray, List.nil_append, List.cons_append]
  gi_wp2_with (gi_at_call 21; refine (callsIn_wide.2 (made_no _ _ hN)).mono ?_; rintro e w' ⟨rfl, hww⟩; subst w')
  exact ⟨_, results_tmp rfl _ _ _, rfl, rfl⟩

set_option maxHeartbeats 400000 in
theorem byte_nil (p : Option Addr) (a : Int) (w : World) (hN : NotMade p w) :
    Calls Try.prog 8 #[.pointer p, .int .i64 a] w fun e w' => e = .returned (.tuple #[.int .u8 0, .int .i64 1]) ∧ Below w.heap.size w w' := by
  refine callsIn_wide (n := 0).1 ?_
  refine callsIn_of_wp_marks Try.func8 rfl trivial ?_ rfl
  simp only [Try.ntmps8, List.size_toArray, List.length_cons, List.length_nil, Nat.reduceAdd, Nat.reduceSub, Array.replicate_succ, Array.replicate_zero, List.push_toArray, List.append_toArray, List.nil_append, List.cons_append]
  have hN3 : ∀ o1 o2 o3, NotMade p (((w.alloc o1).alloc o2).alloc o3) := fun o1 o2 o3 => hN.turns (((Turns.alloc Noth _ _).trans (Turns.alloc _ _ _)).trans (Turns.alloc _ _ _)) (fun _ h => h.elim)
  gi_wp2_with (gi_at_call 21; refine (callsIn_wide.2 (made_no _ _ (hN3 _ _ _))).mono ?_; rintro e w' ⟨rfl, hww⟩; subst w')
  refine ⟨.tuple #[.int .u8 0, .int .i64 1], ?_, rfl, (((Below.refl _ w).alloc (Nat.le_refl _) _).alloc (by simp) _).alloc (by simp; omega) _⟩
  simp [results, Try.f8, go_sem]

set_option maxRecDepth 100000 in
set_option maxHeartbeats 1000000 in
theorem between1_none (Bt Bf Bo : Nat) (p : Option Addr) (enc : Nat → Array Value) :
    Gives Try.prog 39 #[.pointer (some ⟨Bt, 0, none⟩), .pointer (some ⟨Bf, 0, none⟩), .pointer (some ⟨Bo, 0, none⟩)] 0 enc (fun W => W.heap[Bt]? = some (.cells #[.pointer p] 22) ∧ NotMade p W) := by
  intro l J Jx W hJ hJx hRd hY h0
  have hr := hRd _ _ _ h0
  have hlt0 := (Array.getElem?_eq_some_iff.1 hr.1).1
  have hb1 : ∀ o, (W.alloc o).cell? ⟨Bt, 0, none⟩ = some (.pointer p) := fun o => by rw [World.cell?_of_block (Below.heap_alloc W o Bt hlt0), Lib.cell_of_heap hr.1]; rfl
  refine callsIn_wide (n := 0).1 ?_
  refine callsIn_of_wp_marks Try.func39 rfl trivial ?_ rfl
  simp only [Try.ntmps39, List.size_toArray, List.length_cons, List.length_nil, Nat.reduceAdd, Nat.reduceSub, Array.replicate_succ, Array.replicate_zero, List.push_toArray, List.append_toArray, List.nil_append, List.cons_append]
  gi_wp2_with (gi_at_call 23; refine (callsIn_wide.2 (walk_any _ _)).mono ?_; rintro e w' ⟨rfl, rfl⟩)
  obtain ⟨w1, hw1⟩ : ∃ w1, (W.alloc (.cells #[.func (.yield l) #[] #[]] 77)).alloc (.cells #[.pointer p] 22) = w1 := ⟨_, rfl⟩
  have hs1 : w1.heap.size = W.heap.size + 2 := by rw [← hw1]; simp
  have hT1 : Turns Noth W w1 := by rw [← hw1]; exact (Turns.alloc _ _ _).trans (Turns.alloc _ _ _)
  have hB1 : w1.heap[W.heap.size]? = some (.cells #[.func (.yield l) #[] #[]] 77) := by rw [← hw1]; exact (Below.heap_alloc _ _ _ (by simp)).trans (World.alloc_heap_new W _)
  have hB2 : w1.heap[W.heap.size + 1]? = some (.cells #[.pointer p] 22) := by rw [← hw1]; have := World.alloc_heap_new (W.alloc (.cells #[.func (.yield l) #[] #[]] 77)) (.cells #[.pointer p] 22); rwa [World.size_alloc] at this
  rw [hw1]
  refine wp_range (gf := 37) (lb := #[.pointer (some ⟨W.heap.size + 1, 0, none⟩)]) rfl (enters_of Try.func37 (by kernel_rfl) rfl) (walk1_none (W.heap.size + 1) p (fun _ => #[undef, undef])) (fun _ => rfl)
    (fun _ X A => InB J W.heap.size (W.heap.size + 1) (.cells #[.func (.yield l) #[] #[]] 77) (.cells #[.pointer p] 22) 0 X A) (fun _ _ _ _ => False) (fun _ _ _ _ => False)
    (fun _ _ _ _ _ h ht hx => h.step hJ ht hx) (fun _ => steady_never) (fun _ => steady_never) (fun i X A h => ⟨h.b, (hRd _ _ _ h.j).2⟩)
    ⟨hJ _ _ _ W w1 h0 hT1 (fun k h => .inr (by rcases h with h | h | h; exact h.elim; omega; omega)), hB1, hB2, fun h => h, fun h => h, fun _ h => h.elim⟩ (fun _ _ _ _ _ hi => absurd hi (Nat.not_lt_zero _)) (fun _ _ _ _ _ hi => absurd hi (Nat.not_lt_zero _)) ?done (fun _ _ _ _ _ hi => absurd hi (Nat.not_lt_zero _))
  case done =>
    rintro D A hD h hK
    gi_wp2
    refine ⟨by simp, .inl ⟨_, _, rfl, run_takeDeferred hK, ?_⟩⟩
    exact ⟨_, results_none rfl _ _ _, ⟨_, rfl⟩, .inl (hJ _ _ _ _ _ h.j (Turns.putObj A (.inl rfl) _) (fun _ h => h.elim))⟩

set_option maxRecDepth 100000 in
set_option maxHeartbeats 1000000 in
theorem find_nil (p : Option Addr) (c a : Int) (w : World) (hN : NotMade p w) :
    Calls Try.prog 11 #[.pointer p, .int .u8 c, .int .i64 a] w fun e w' => e = .returned (.int .i64 (-1)) ∧ Below w.heap.size w w' := by
  refine callsIn_wide (n := 0).1 ?_
  refine callsIn_of_wp_marks Try.func11 rfl trivial ?_ rfl
  simp only [Try.ntmps11, List.size_toArray, List.length_cons, List.length_nil, Nat.reduceAdd, Nat.reduceSub, Array.replicate_succ, Array.replicate_zero, List.push_toArray, List.append_toArray, List.nil_append, List.cons_append]
  have hN2 : ∀ o1 o2, NotMade p ((w.alloc o1).alloc o2) := fun o1 o2 => hN.turns ((Turns.alloc Noth _ _).trans (Turns.alloc _ _ _)) (fun _ h => h.elim)
  gi_wp2_with (first | (gi_at_call 13; refine (callsIn_wide.2 (len_none p _ (hN2 _ _))).mono ?_; rintro e w' ⟨rfl, hbl⟩) | (gi_at_call 27; refine (callsIn_wide.2 (between_any _ _ _ _)).mono ?_; rintro e w2 ⟨rfl, rfl⟩))
  obtain ⟨w0, hw0⟩ : ∃ w0, (w.alloc (.cells #[.int .u8 c] 5)).alloc (.cells #[.int .i64 0] 3) = w0 := ⟨_, rfl⟩
  have hs0 : w0.heap.size = w.heap.size + 2 := by rw [← hw0]; simp
  have hT0 : Turns Noth w w0 := by rw [← hw0]; exact (Turns.alloc _ _ _).trans (Turns.alloc _ _ _)
  have hR0 : w0.heap[w.heap.size + 1]? = some (.cells #[.int .i64 0] 3) := by rw [← hw0]; have := World.alloc_heap_new (w.alloc (.cells #[.int .u8 c] 5)) (.cells #[.int .i64 0] 3); rwa [World.size_alloc] at this
  rw [hw0] at hbl
  have hsl := hbl.size
  obtain ⟨w1, hw1⟩ : ∃ w1, ((w'.alloc (.cells #[.pointer p] 22)).alloc (.cells #[.int .i64 (max a 0)] 3)).alloc (.cells #[.int .i64 0] 3) = w1 := ⟨_, rfl⟩
  have hs1 : w1.heap.size = w'.heap.size + 3 := by rw [← hw1]; simp
  obtain ⟨hB1, _, _⟩ := allocs3 w' (.cells #[.pointer p] 22) (.cells #[.int .i64 (max a 0)] 3) (.cells #[.int .i64 0] 3)
  rw [hw1] at hB1
  have hT1' : Turns Noth w' w1 := by rw [← hw1]; exact ((Turns.alloc _ _ _).trans (Turns.alloc _ _ _)).trans (Turns.alloc _ _ _)
  have hT1 : Turns Noth w w1 := (hT0.trans (Turns.of_below hbl)).trans hT1'
  have hN1 := hN.turns hT1 (fun _ h => h.elim)
  have hR1 : w1.heap[w.heap.size + 1]? = some (.cells #[.int .i64 0] 3) := (hT1'.block _ (by omega) (fun h => h)).trans ((hbl.block _ (by omega)).trans hR0)
  rw [hw1]
  refine wp_range (gf := 39) (lb := #[.pointer (some ⟨w'.heap.size, 0, none⟩), .pointer (some ⟨w'.heap.size + 1, 0, none⟩), .pointer (some ⟨w'.heap.size + 2, 0, none⟩)]) rfl (enters_of Try.func39 (by kernel_rfl) rfl) (between1_none w'.heap.size (w'.heap.size + 1) (w'.heap.size + 2) p (fun _ => #[undef, undef])) (fun _ => rfl)
    (fun _ X W => Base w1 Noth X W) (fun _ _ _ _ => False) (fun _ _ _ _ => False)
    (steady_base _ _) (fun _ => steady_never) (fun _ => steady_never) ?hR (Base.start _ _) (fun _ _ _ _ _ hi => absurd hi (Nat.not_lt_zero _)) (fun _ _ _ _ _ hi => absurd hi (Nat.not_lt_zero _)) ?done (fun _ _ _ _ _ hi => absurd hi (Nat.not_lt_zero _))
  case hR =>
    rintro i X W hb
    exact ⟨(hb.turns.block _ (by omega) (fun h => h)).trans hB1, hN1.turns hb.turns (fun _ h => h.elim)⟩
  case done =>
    rintro D W hD hb hK
    have hRW := (hb.turns.block _ (show w.heap.size + 1 < w1.heap.size by omega) (fun h => h)).trans hR1
    have hc0 : W.cell? ⟨w.heap.size + 1, 0, none⟩ = some (.int .i64 0) := by rw [Lib.cell_of_heap hRW]; rfl
    have hf0 : W.frozen? ⟨w.heap.size + 1, 0, none⟩ = false := Lib.frozen_of_heap hRW 0
    have hDy := (hb.young D rfl).1
    gi_wp2
    have hK' : (W.setCell ⟨w.heap.size + 1, 0, none⟩ (.int .i64 (-1))).heap[D]? = some (.deferred (some [])) := (Below.heap_setCell _ _ _ _ (by show D ≠ w.heap.size + 1; omega)).trans hK
    refine ⟨by simp, .inl ⟨_, _, rfl, run_takeDeferred hK', ?_⟩⟩
    have hc5 := cell_kept (World.cell?_setCell_same' W ⟨w.heap.size + 1, 0, none⟩ (.int .i64 (-1)) (by rw [hc0]; rfl)) (grownBy_putObj' _ D (.deferred none)) (fun r e => by cases e; exact ⟨_, hK', rfl⟩)
    refine ⟨.int .i64 (-1), ?_, rfl, ?_⟩
    · simp [results, Try.f11, go_sem, hc5]
    · have h1 : Turns (fun k => w.heap.size ≤ k) w W := (hT1.trans hb.turns).mono (fun _ h => h.elim)
      exact ((h1.trans (Turns.setCell (p := ⟨w.heap.size + 1, 0, none⟩) W (by show w.heap.size ≤ w.heap.size + 1; omega) _)).trans (Turns.putObj _ (by omega) _)).below (Nat.le_refl _) (fun _ h => h)

end Go.Proofs.Ytpippmbkdjcbeaa
