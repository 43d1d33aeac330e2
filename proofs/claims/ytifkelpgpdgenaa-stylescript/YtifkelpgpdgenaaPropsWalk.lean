/-
  What is proved here: StyleProps' walk.
-/
import Derived.Test.YtifkelpgpdgenaaPropsOps2
namespace Go.Proofs.Ytifkelpgpdgenaa
open Go.RowKit Go.Shelf

theorem wpList_load_want {P : Program} {ops : Array Oper} {rest : List Oper} {o : Oper} {a : Act} {w : World} {Q : Exit → Act → World → Prop} (ty : TypeId) (x : Operand) (ho : o.op = .load ty x) (hw : Region.wanted o (yielded ops a.tmps) = true)
    (g : Nat) (hx : a.eval x = .pointer (some ⟨g, 0, none⟩)) (t : TypeId) (cs : Array Value) (fr : Nat × Nat) (d : TypeDesc) (hg : w.heap[g]? = some (.cells cs t fr))
    (hu : P.underlying ty = some d) (hd : (match d with | .struct _ | .array _ _ => true | _ => false) = true) (hi : (P.info? ty).map (·.size) = some cs.size)
    (h : wpList P ops Q rest (a.put o.dst (.agg cs)) w) : wpList P ops Q (o :: rest) a w :=
  BigFrame.wpList_want hw fun _ hK => wp_load_row ty x ho g hx t cs fr d hg hu hd hi (hK _ _ h)

theorem made23 (w : World) {l : List Int} (hl : l.length = 17) : PB ((w.alloc (.cells #[Value.int IntKind.i64 0, Value.int IntKind.i64 0, Value.int IntKind.i64 0, Value.int IntKind.i64 0, Value.int IntKind.i64 0, Value.int IntKind.i64 0, Value.int IntKind.i64 0, Value.int IntKind.i64 0, Value.int IntKind.i64 0, Value.int IntKind.i64 0, Value.int IntKind.i64 0, Value.int IntKind.i64 0, Value.int IntKind.i64 0, Value.int IntKind.i64 0, Value.int IntKind.i64 0, Value.int IntKind.i64 0, Value.int IntKind.i64 0] 23)).setRow w.heap.size (prC l)) w.heap.size 23 l ∧ Below w.heap.size w ((w.alloc (.cells #[Value.int IntKind.i64 0, Value.int IntKind.i64 0, Value.int IntKind.i64 0, Value.int IntKind.i64 0, Value.int IntKind.i64 0, Value.int IntKind.i64 0, Value.int IntKind.i64 0, Value.int IntKind.i64 0, Value.int IntKind.i64 0, Value.int IntKind.i64 0, Value.int IntKind.i64 0, Value.int IntKind.i64 0, Value.int IntKind.i64 0, Value.int IntKind.i64 0, Value.int IntKind.i64 0, Value.int IntKind.i64 0, Value.int IntKind.i64 0] 23)).setRow w.heap.size (prC l)) :=
  ⟨⟨hl, setRow_same _ (heap_new w _) _⟩, below_setRow ((Below.refl _ w).alloc (Nat.le_refl _) _) (Nat.le_refl _) _⟩

theorem index38 (l : List Int) (hl : l.length = 17) {k : Nat} (hk : k < 17) (w : World) : (Instr.index 38 (.agg (prC l)) (.int .i64 k)).run Try.prog w = .ok (.int .i64 (l.getD k 0)) w := by
  have c3 : (sizeOf 3).run Try.prog w = .ok 1 w := by kernel_rfl
  have hg : (prC l)[k]? = some (.int .i64 (l.getD k 0)) := by rw [prC_get, List.getD_eq_getElem?_getD, List.getElem?_eq_getElem (by omega)]; rfl
  simp [Instr.index, run_underlying Try.underlying38, asIntOf, c3, go_sem, part, hg]
  intro h
  omega

theorem PB.zero {w : World} {B : Nat} (h : PB w B 23 zeroL) : w.heap[B]? = some (.cells #[Value.int IntKind.i64 0, Value.int IntKind.i64 0, Value.int IntKind.i64 0, Value.int IntKind.i64 0, Value.int IntKind.i64 0, Value.int IntKind.i64 0, Value.int IntKind.i64 0, Value.int IntKind.i64 0, Value.int IntKind.i64 0, Value.int IntKind.i64 0, Value.int IntKind.i64 0, Value.int IntKind.i64 0, Value.int IntKind.i64 0, Value.int IntKind.i64 0, Value.int IntKind.i64 0, Value.int IntKind.i64 0, Value.int IntKind.i64 0] 23 (0, 0)) := h.row

set_option maxRecDepth 100000 in
set_option maxHeartbeats 8000000 in
theorem props_no (l : List Int) (hl : l.length = 17) (n v : Int) (hp : isP n = false) (w : World) :
    Calls Try.prog 3 #[prV l, .int .i64 n, .int .i64 v] w fun e w' => e = .returned (.bool true) ∧ Below w.heap.size w w' := by
  have hP := PB.new w (T := 23) hl
  have hB := (Below.refl w.heap.size w).alloc (Nat.le_refl _) (Obj.cells (prC l) 23)
  generalize hw0 : w.alloc (Obj.cells (prC l) 23) = w0 at hP hB
  have h9 := bounds_any n
  have h10 := refBounds_any n
  have hm := mayS_no (v := v) hp
  have hn : ¬ (1 ≤ n ∧ n ≤ 17) := fun h => by rw [isP_yes h] at hp; cases hp
  have h15 := get_no l n hn
  have h16 := with_no l hl n v hm
  have h18 := refFits_any n v
  rw [hp] at h9 h10
  rw [hm] at h18
  unfold prV at *
  unfold seV at *
  have h15 : Hid _ := h15
  have h16 : Hid _ := h16
  have h18 : Hid _ := h18
  clear hp hm hn
  go_enter Try.func3, Try.ntmps3
  go_wp2_with (first
    | (go_at_call 9; refine (h9 _).mono ?_; rintro e w' ⟨rfl, hww⟩; subst w')
    | (go_at_call 10; refine (h10 _).mono ?_; rintro e w' ⟨rfl, hww⟩; subst w'))
  try rw [hw0]
  clear hw0 h9 h10
  refine region3_no _ (fun _ _ _ _ _ h => h) _ _ l hl w.heap.size w.heap.size (loP n) (hiP n) w w0 (Nat.le_refl _) ⟨hP, hB⟩ ?_
  rintro w1 ⟨P1, B1⟩
  clear hP hB
  unfold fr3
  go_wp2_with (refine wpList_load_row rfl 23 _ rfl w.heap.size rfl 23 _ (0, 0) _ P1.row Try.underlying23 rfl (info23l hl) ?_)
  refine (h15.out _).mono ?_
  rintro e w2 ⟨rfl, b2⟩
  have P2 := P1.below b2 P1.lt
  have B2 := B1.trans (b2.mono B1.size)
  clear P1
  go_wp2_with (refine wpList_load_row rfl 23 _ rfl w.heap.size rfl 23 _ (0, 0) _ P2.row Try.underlying23 rfl (info23l hl) ?_)
  refine (h16.out _).mono ?_
  rintro e w3 ⟨rfl, b3⟩
  have P3 := P2.below b3 P2.lt
  have B3 := B2.trans (b3.mono B2.size)
  clear P2
  obtain ⟨Z3, c3⟩ := made23 w3 (l := zeroL) rfl
  have B4 := B3.trans (c3.mono B3.size)
  obtain ⟨w4, hw4⟩ : ∃ w4, (w3.alloc (.cells #[Value.int IntKind.i64 0, Value.int IntKind.i64 0, Value.int IntKind.i64 0, Value.int IntKind.i64 0, Value.int IntKind.i64 0, Value.int IntKind.i64 0, Value.int IntKind.i64 0, Value.int IntKind.i64 0, Value.int IntKind.i64 0, Value.int IntKind.i64 0, Value.int IntKind.i64 0, Value.int IntKind.i64 0, Value.int IntKind.i64 0, Value.int IntKind.i64 0, Value.int IntKind.i64 0, Value.int IntKind.i64 0, Value.int IntKind.i64 0] 23)).setRow w3.heap.size (prC zeroL) = w4 := ⟨_, rfl⟩
  rw [hw4] at Z3 c3 B4
  go_wp2_with (refine wpList_store_row rfl 23 _ _ rfl w3.heap.size (prC zeroL) rfl rfl 23 _ (heap_new w3 _) (info23l rfl) rfl (prC_one _) ?_; rw [hw4])
  refine (h18.out _).mono ?_
  rintro e w5 ⟨rfl, b5⟩
  have Z5 := Z3.below b5 Z3.lt
  have B5 := B4.trans (b5.mono B4.size)
  clear Z3 hw4 P3
  go_wp2_with (refine wpList_load_row rfl 23 _ rfl w3.heap.size rfl 23 #[Value.int IntKind.i64 0, Value.int IntKind.i64 0, Value.int IntKind.i64 0, Value.int IntKind.i64 0, Value.int IntKind.i64 0, Value.int IntKind.i64 0, Value.int IntKind.i64 0, Value.int IntKind.i64 0, Value.int IntKind.i64 0, Value.int IntKind.i64 0, Value.int IntKind.i64 0, Value.int IntKind.i64 0, Value.int IntKind.i64 0, Value.int IntKind.i64 0, Value.int IntKind.i64 0, Value.int IntKind.i64 0, Value.int IntKind.i64 0] (0, 0) _ Z5.zero Try.underlying23 rfl (by kernel_rfl) ?_)
  go_ret
  exact ⟨rfl, B5⟩

set_option maxRecDepth 100000 in
set_option maxHeartbeats 8000000 in
theorem props_yes (l : List Int) (hl : l.length = 17) (k : Nat) (hk : k < 17) (v : Int) (w : World) :
    Calls Try.prog 3 #[prV l, .int .i64 ((k : Int) + 1), .int .i64 v] w fun e w' => e = .returned (.bool true) ∧ Below w.heap.size w w' := by
  have hP := PB.new w (T := 23) hl
  have hB := (Below.refl w.heap.size w).alloc (Nat.le_refl _) (Obj.cells (prC l) 23)
  generalize hw0 : w.alloc (Obj.cells (prC l) 23) = w0 at hP hB
  obtain ⟨n, hn⟩ : ∃ n : Int, n = (k : Int) + 1 := ⟨_, rfl⟩
  have h17 : 1 ≤ n ∧ n ≤ 17 := by omega
  have hp := isP_yes h17
  have hkn : n.toNat - 1 = k := by omega
  have h9 := bounds_any n
  have h10 := refBounds_any n
  have h15 := get_yes l hl n h17
  rw [hkn] at h15
  have h17a := refAll_any l hl
  have h18 := refFits_any n v
  have hl2 : (setP l (n, v)).length = 17 := by simp [setP]; exact hl
  have hix := index38 l hl hk
  generalize l.getD k 0 = x at h15 hix
  rw [hp] at h9 h10
  obtain ⟨q, qe, hql, hq0, h16, hfin⟩ : ∃ (q : List Int) (qe : Int), q.length = 17 ∧ (mayS n v = true → q = setP l (n, v) ∧ qe = 0) ∧ (∀ W, Calls Try.prog 16 #[prV l, seV n v] W fun e w' => e = .returned (.tuple #[prV q, .int .i64 qe]) ∧ Below W.heap.size W w') ∧ (mayS n v = false → q = zeroL ∧ qe = 2) := by
    cases hm : mayS n v
    · exact ⟨zeroL, 2, rfl, (fun h => by cases h), with_no l hl n v hm, fun _ => ⟨rfl, rfl⟩⟩
    · exact ⟨setP l (n, v), 0, hl2, fun _ => ⟨rfl, rfl⟩, with_yes l hl n v hm, (fun h => by cases h)⟩
  unfold prV at *
  unfold seV at *
  replace h15 : Hid _ := h15
  replace h16 : Hid _ := h16
  replace h18 : Hid _ := h18
  replace h17a : Hid _ := h17a
  replace hq0 : Hid _ := hq0
  replace hfin : Hid _ := hfin
  rw [← hn]
  clear hp hkn
  replace hn : Hid _ := hn
  go_enter Try.func3, Try.ntmps3
  go_wp2_with (first
    | (go_at_call 9; refine (h9 _).mono ?_; rintro e w' ⟨rfl, hww⟩; subst w')
    | (go_at_call 10; refine (h10 _).mono ?_; rintro e w' ⟨rfl, hww⟩; subst w'))
  try rw [hw0]
  clear hw0 h9 h10
  refine region3_yes _ (fun _ _ _ _ _ h => h) _ _ l hl w.heap.size w.heap.size (loP n) (hiP n) w w0 (Nat.le_refl _) ⟨hP, hB⟩ ?_
  rintro w1 ⟨P1, B1⟩
  clear hP hB
  unfold fr3
  go_wp2_with (refine wpList_load_row rfl 23 _ rfl w.heap.size rfl 23 _ (0, 0) _ P1.row Try.underlying23 rfl (info23l hl) ?_)
  refine (h15.out _).mono ?_
  rintro e w2 ⟨rfl, b2⟩
  have P2 := P1.below b2 P1.lt
  have B2 := B1.trans (b2.mono B1.size)
  clear P1
  go_wp2_with (refine wpList_load_row rfl 23 _ rfl w.heap.size rfl 23 _ (0, 0) _ P2.row Try.underlying23 rfl (info23l hl) ?_)
  refine (h16.out _).mono ?_
  rintro e w3 ⟨rfl, b3⟩
  have P3 := P2.below b3 P2.lt
  have B3 := B2.trans (b3.mono B2.size)
  clear P2
  obtain ⟨Z3, c3⟩ := made23 w3 hql
  have B4 := B3.trans (c3.mono B3.size)
  have P4 := P3.below c3 P3.lt
  obtain ⟨w4, hw4⟩ : ∃ w4, (w3.alloc (.cells #[Value.int IntKind.i64 0, Value.int IntKind.i64 0, Value.int IntKind.i64 0, Value.int IntKind.i64 0, Value.int IntKind.i64 0, Value.int IntKind.i64 0, Value.int IntKind.i64 0, Value.int IntKind.i64 0, Value.int IntKind.i64 0, Value.int IntKind.i64 0, Value.int IntKind.i64 0, Value.int IntKind.i64 0, Value.int IntKind.i64 0, Value.int IntKind.i64 0, Value.int IntKind.i64 0, Value.int IntKind.i64 0, Value.int IntKind.i64 0] 23)).setRow w3.heap.size (prC q) = w4 := ⟨_, rfl⟩
  rw [hw4] at Z3 c3 B4 P4
  replace hn := hn.out
  subst hn
  go_wp2_with (first
    | (refine wpList_store_row rfl 23 _ _ rfl w3.heap.size (prC q) rfl rfl 23 _ (heap_new w3 _) (info23l hql) (by rw [prC_size, hql]; rfl) (prC_one _) ?_; rw [hw4])
    | refine wpList_load_want 23 _ rfl (by kernel_rfl) w.heap.size rfl 23 _ (0, 0) _ P4.row Try.underlying23 rfl (info23l hl) ?_)
  refine (h17a.out _).mono ?_
  rintro e w5 ⟨rfl, b5⟩
  have Z5 := Z3.below b5 Z3.lt
  have P5 := P4.below b5 P4.lt
  have B5 := B4.trans (b5.mono B4.size)
  clear Z3 hw4 P3 P4
  cases hm : mayS ((k : Int) + 1) v
  · obtain ⟨e1, e2⟩ := hfin.out hm
    subst e1 e2
    rw [hm] at h18
    clear hm hq0 hfin h15 h16 h17a
    go_wp2_with fail
    refine (h18.out _).mono ?_
    rintro e w6 ⟨rfl, b6⟩
    have Z6 := Z5.below b6 Z5.lt
    have B6 := B5.trans (b6.mono B5.size)
    go_wp2_with (refine wpList_load_row rfl 23 _ rfl w3.heap.size rfl 23 #[Value.int IntKind.i64 0, Value.int IntKind.i64 0, Value.int IntKind.i64 0, Value.int IntKind.i64 0, Value.int IntKind.i64 0, Value.int IntKind.i64 0, Value.int IntKind.i64 0, Value.int IntKind.i64 0, Value.int IntKind.i64 0, Value.int IntKind.i64 0, Value.int IntKind.i64 0, Value.int IntKind.i64 0, Value.int IntKind.i64 0, Value.int IntKind.i64 0, Value.int IntKind.i64 0, Value.int IntKind.i64 0, Value.int IntKind.i64 0] (0, 0) _ Z6.zero Try.underlying23 rfl (by kernel_rfl) ?_)
    go_ret
    exact ⟨rfl, B6⟩
  · obtain ⟨e1, e2⟩ := hq0.out hm
    subst e1 e2
    rw [hm] at h18
    clear hm hq0 hfin h15 h16 h17a
    go_wp2_with fail
    refine (h18.out _).mono ?_
    rintro e w6 ⟨rfl, b6⟩
    have Z6 := Z5.below b6 Z5.lt
    have P6 := P5.below b6 P5.lt
    have B6 := B5.trans (b6.mono B5.size)
    go_wp2_with fail
    refine region10_yes _ (fun _ _ _ _ _ h => h) _ _ l hl ((k : Int) + 1) v h17 hl2 w.heap.size w3.heap.size w.heap.size w w6 (Nat.le_refl _) ⟨P6, Z6, B6⟩ ?_
    rintro w7 ⟨P7, Z7, B7⟩
    unfold fr3
    go_wp2_with fail
    go_ret
    exact ⟨rfl, B7⟩
end Go.Proofs.Ytifkelpgpdgenaa
