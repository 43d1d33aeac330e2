/-
  What is proved here: what the small functions of section answer, and the document's own.
-/
import Derived.Test.YtglgapmjhmeonaaMath
import Derived.BigQuiet
namespace Go.Proofs.Ytglgapmjhmeonaa
open Go.RowKit Go.Shelf

theorem heap_new (w : World) (o : Obj) : (w.alloc o).heap[w.heap.size]? = some o := by show (w.heap.push o)[w.heap.size]? = _; simp

/-- A section in memory. -/
structure SB (w : World) (B : Nat) (s : Sec) : Prop where
  row : w.heap[B]? = some (.cells (seC s) 24 (0, 0))
theorem SB.lt {w : World} {B : Nat} {s : Sec} (h : SB w B s) : B < w.heap.size := (Array.getElem?_eq_some_iff.1 h.row).1
theorem SB.cell {w : World} {B : Nat} {s : Sec} (h : SB w B s) {k : Nat} {v : Value} (hk : (seC s)[k]? = some v) : w.cell? ⟨B, k, none⟩ = some v := by
  rw [Lib.cell_of_heap h.row, hk]
theorem SB.below {w w' : World} {n B : Nat} {s : Sec} (h : SB w B s) (hb : Below n w w') (hn : B < n) : SB w' B s := ⟨(hb.block B hn).trans h.row⟩
theorem SB.new (w : World) (s : Sec) : SB (w.alloc (.cells (seC s) 24)) w.heap.size s := ⟨heap_new w _⟩
theorem SB.c0 {w : World} {B : Nat} {s : Sec} (h : SB w B s) : w.cell? ⟨B, 0, none⟩ = some (.int .i64 s.w) := h.cell rfl
theorem SB.c1 {w : World} {B : Nat} {s : Sec} (h : SB w B s) : w.cell? ⟨B, 1, none⟩ = some (.int .i64 s.h) := h.cell rfl
theorem SB.c2 {w : World} {B : Nat} {s : Sec} (h : SB w B s) : w.cell? ⟨B, 2, none⟩ = some (.int .i64 s.top) := h.cell rfl
theorem SB.c3 {w : World} {B : Nat} {s : Sec} (h : SB w B s) : w.cell? ⟨B, 3, none⟩ = some (.int .i64 s.bottom) := h.cell rfl
theorem SB.c4 {w : World} {B : Nat} {s : Sec} (h : SB w B s) : w.cell? ⟨B, 4, none⟩ = some (.int .i64 s.inner) := h.cell rfl
theorem SB.c5 {w : World} {B : Nat} {s : Sec} (h : SB w B s) : w.cell? ⟨B, 5, none⟩ = some (.int .i64 s.outer) := h.cell rfl
theorem SB.c6 {w : World} {B : Nat} {s : Sec} (h : SB w B s) : w.cell? ⟨B, 6, none⟩ = some (.int .i64 s.cols) := h.cell rfl
theorem SB.c7 {w : World} {B : Nat} {s : Sec} (h : SB w B s) : w.cell? ⟨B, 7, none⟩ = some (.int .i64 s.gap) := h.cell rfl
theorem SB.c8 {w : World} {B : Nat} {s : Sec} (h : SB w B s) : w.cell? ⟨B, 8, none⟩ = some (.int .i64 s.start) := h.cell rfl
theorem SB.c9 {w : World} {B : Nat} {s : Sec} (h : SB w B s) : w.cell? ⟨B, 9, none⟩ = some (.int .i64 s.balance) := h.cell rfl
theorem SB.c10 {w : World} {B : Nat} {s : Sec} (h : SB w B s) : w.cell? ⟨B, 10, none⟩ = some (.int .i64 s.mirror) := h.cell rfl
theorem seC_size (s : Sec) : (seC s).size = 17 := rfl
theorem seC_one (s : Sec) : (seC s).all (·.oneCell') = true := by simp [seC, Value.oneCell']
theorem info24 (s : Sec) : (Try.prog.info? 24).map (·.size) = some (seC s).size := by rw [seC_size]; kernel_rfl

theorem tmod2 (p : Int) : p.tmod 2 = 0 ↔ p % 2 = 0 :=
  ⟨fun h => Int.emod_eq_zero_of_dvd (Int.dvd_of_tmod_eq_zero h), fun h => Int.tmod_eq_zero_of_dvd (Int.dvd_of_emod_eq_zero h)⟩

set_option maxHeartbeats 400000 in
theorem isEven_any (p : Int) (w : World) : Calls Try.prog 39 #[.int .i64 p] w fun e w' => e = .returned (.bool (decide (p % 2 = 0))) ∧ w' = w := by
  go_enter Try.func39, Try.ntmps39
  go_wp2
  go_ret
  have h : (p.tmod 2 == 0) = decide (p % 2 = 0) := by
    rw [Bool.eq_iff_iff]
    simp [tmod2]
  exact ⟨congrArg (fun b => Ending.returned (Value.bool b)) h, rfl⟩

set_option maxHeartbeats 1000000 in
theorem mayStand_any (x : Int) (w : World) : Calls Try.prog 44 #[.int .u8 x] w fun e w' => e = .returned (.bool (mayB x)) ∧ w' = w := by
  have hv : mayB x = (decide (32 ≤ x ∧ x ≤ 126) || decide (x = 3)) := rfl
  have hc : x = 3 ∨ (x < 32 ∧ x ≠ 3) ∨ (32 ≤ x ∧ x ≤ 126) ∨ 126 < x := by omega
  rcases hc with h | h | h | h
  all_goals
    first
      | (have e1 : mayB x = true := by rw [hv]; simp; omega
         rw [e1])
      | (have e1 : mayB x = false := by rw [hv]; simp; omega
         rw [e1])
    clear hv
    have f1 : (x == 3) = decide (x = 3) := by by_cases h : x = 3 <;> simp [h]
    go_enter Try.func44, Try.ntmps44
    go_wp2
    all_goals (go_ret; first | exact ⟨rfl, rfl⟩ | (exfalso; omega) | (refine ⟨?_, rfl⟩; congr 2; simp <;> omega))

set_option maxHeartbeats 1000000 in
theorem wide_any (s : Sec) (h : NumOk s) (w : World) : Calls Try.prog 40 #[seV s] w fun e w' => e = .returned (.int .i64 (wideI s)) ∧ Below w.heap.size w w' := by
  have hB := (Below.refl w.heap.size w).alloc (Nat.le_refl _) (Obj.cells (seC s) 24)
  have hP := SB.new w s
  have c0 := hP.c0; have c4 := hP.c4; have c5 := hP.c5; have c6 := hP.c6; have c7 := hP.c7
  have hg := gaps_le h
  have h1 := h.w; have h2 := h.inner; have h3 := h.outer; have h4 := h.cols; have h5 := h.gap
  have hw := wide_bounds h
  have hr := room_bounds h
  unfold roomI at hr
  have hq : wideI s = (s.w - s.inner - s.outer - s.gap * (s.cols - 1)).tdiv s.cols := rfl
  rw [hq] at hw ⊢
  have h0 : ¬ s.cols = 0 := by omega
  clear hP h hq
  unfold seV
  go_enter Try.func40, Try.ntmps40
  go_wp2
  go_ret
  exact ⟨rfl, hB⟩

set_option maxHeartbeats 1000000 in
theorem high_any (s : Sec) (h : NumOk s) (w : World) : Calls Try.prog 42 #[seV s] w fun e w' => e = .returned (.int .i64 (highI s)) ∧ Below w.heap.size w w' := by
  have hB := (Below.refl w.heap.size w).alloc (Nat.le_refl _) (Obj.cells (seC s) 24)
  have hP := SB.new w s
  have c0 := hP.c1; have c4 := hP.c2; have c5 := hP.c3
  have h1 := h.h; have h2 := h.top; have h3 := h.bottom
  clear hP h
  unfold seV highI
  go_enter Try.func42, Try.ntmps42
  go_wp2
  go_ret
  exact ⟨rfl, hB⟩

def turned (s : Sec) (p : Int) : Bool := decide (s.mirror = 1) && decide (p % 2 = 0)
def leftI (s : Sec) (p : Int) : Int := if turned s p then s.outer else s.inner

set_option maxHeartbeats 1000000 in
theorem left_any (s : Sec) (p : Int) (w : World) : Calls Try.prog 41 #[seV s, .int .i64 p] w fun e w' => e = .returned (.int .i64 (leftI s p)) ∧ Below w.heap.size w w' := by
  have hB := (Below.refl w.heap.size w).alloc (Nat.le_refl _) (Obj.cells (seC s) 24)
  have hP := SB.new w s
  have c0 := hP.c4; have c4 := hP.c5; have c5 := hP.c10
  have hE := isEven_any p
  clear hP
  unfold leftI turned seV
  by_cases h1 : s.mirror = 1
  · rw [decide_eq_true h1]
    by_cases h2 : p % 2 = 0
    · rw [decide_eq_true h2] at hE ⊢
      go_enter Try.func41, Try.ntmps41
      go_wp2_with (go_at_call 39; refine (hE _).mono ?_; rintro e w' ⟨rfl, hww⟩; subst w')
      go_ret
      exact ⟨rfl, hB⟩
    · rw [decide_eq_false h2] at hE ⊢
      go_enter Try.func41, Try.ntmps41
      go_wp2_with (go_at_call 39; refine (hE _).mono ?_; rintro e w' ⟨rfl, hww⟩; subst w')
      go_ret
      exact ⟨rfl, hB⟩
  · rw [decide_eq_false h1]
    go_enter Try.func41, Try.ntmps41
    go_wp2_with fail
    go_ret
    exact ⟨rfl, hB⟩

set_option maxHeartbeats 1000000 in
theorem rleft_any (s : Sec) (p : Int) (w : World) : Calls Try.prog 36 #[seV s, .int .i64 p] w fun e w' => e = .returned (.int .i64 (leftI s p)) ∧ Below w.heap.size w w' := by
  have hB := (Below.refl w.heap.size w).alloc (Nat.le_refl _) (Obj.cells (seC s) 24)
  have hP := SB.new w s
  have c0 := hP.c4; have c4 := hP.c5; have c5 := hP.c10
  clear hP
  unfold leftI turned seV
  by_cases h1 : s.mirror = 1
  · rw [decide_eq_true h1]
    by_cases h2 : p % 2 = 0
    · rw [decide_eq_true h2]
      have h3 : p.tmod 2 = 0 := (tmod2 p).2 h2
      clear h2
      go_enter Try.func36, Try.ntmps36
      go_wp2_with fail
      go_ret
      exact ⟨rfl, hB⟩
    · rw [decide_eq_false h2]
      have h3 : ¬ p.tmod 2 = 0 := fun h => h2 ((tmod2 p).1 h)
      clear h2
      go_enter Try.func36, Try.ntmps36
      go_wp2_with fail
      go_ret
      exact ⟨rfl, hB⟩
  · rw [decide_eq_false h1]
    go_enter Try.func36, Try.ntmps36
    go_wp2_with fail
    go_ret
    exact ⟨rfl, hB⟩

set_option maxHeartbeats 1000000 in
theorem rwidth_any (s : Sec) (h : NumOk s) (w : World) : Calls Try.prog 37 #[seV s] w fun e w' => e = .returned (.int .i64 (wideI s)) ∧ Below w.heap.size w w' := by
  have hB := (Below.refl w.heap.size w).alloc (Nat.le_refl _) (Obj.cells (seC s) 24)
  have hP := SB.new w s
  have c0 := hP.c0; have c4 := hP.c4; have c5 := hP.c5; have c6 := hP.c6; have c7 := hP.c7
  have hg := gaps_le h
  have h1 := h.w; have h2 := h.inner; have h3 := h.outer; have h4 := h.cols; have h5 := h.gap
  have hw := wide_bounds h
  have hr := room_bounds h
  unfold roomI at hr
  have hq : wideI s = (s.w - s.inner - s.outer - (s.cols - 1) * s.gap).tdiv s.cols := by unfold wideI roomI; rw [Int.mul_comm]
  rw [hq] at hw ⊢
  rw [Int.mul_comm] at hg hr
  have h0 : ¬ s.cols = 0 := by omega
  clear hP h hq
  unfold seV
  go_enter Try.func37, Try.ntmps37
  go_wp2
  go_ret
  exact ⟨rfl, hB⟩

set_option maxHeartbeats 1000000 in
theorem rheight_any (s : Sec) (h : NumOk s) (w : World) : Calls Try.prog 34 #[seV s] w fun e w' => e = .returned (.int .i64 (highI s)) ∧ Below w.heap.size w w' := by
  have hB := (Below.refl w.heap.size w).alloc (Nat.le_refl _) (Obj.cells (seC s) 24)
  have hP := SB.new w s
  have c0 := hP.c1; have c4 := hP.c2; have c5 := hP.c3
  have h1 := h.h; have h2 := h.top; have h3 := h.bottom
  clear hP h
  unfold seV highI
  go_enter Try.func34, Try.ntmps34
  go_wp2
  go_ret
  exact ⟨rfl, hB⟩

def plainS : Sec := ⟨300, 400, 40, 40, 30, 30, 1, 10, 0, 0, 0, ⟨#[]⟩, ⟨#[]⟩, ⟨#[]⟩, ⟨#[]⟩, ⟨#[]⟩, ⟨#[]⟩⟩
end Go.Proofs.Ytglgapmjhmeonaa
