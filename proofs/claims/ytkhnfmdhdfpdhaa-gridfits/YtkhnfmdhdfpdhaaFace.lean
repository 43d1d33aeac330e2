/-
  What is proved here: how wide a cluster is, and how much nearer it stands, as wide, isKerned and meet tell it.
-/
import Derived.Test.YtkhnfmdhdfpdhaaLook
namespace Go.Proofs.Ytkhnfmdhdfpdhaa
open Go.RowKit Go.Shelf

/-- What a cluster shows. -/
structure Fc where
  kd : Int
  b : Int
  s : Int
  t : Int
  k : Int
def fcC (f : Fc) : Array Value := #[.int .i64 f.kd, .int .u8 f.b, .int .i64 f.s, .int .i64 f.t, .int .i64 f.k]
def fcV (f : Fc) : Value := .agg (fcC f)
structure Fok (f : Fc) : Prop where
  s : 0 ≤ f.s ∧ f.s ≤ 64
  t : 0 ≤ f.t ∧ f.t ≤ 15
  b : 0 ≤ f.b ∧ f.b < 256
def wdI (f : Fc) (m : ByteArray) : Int := if f.kd = 1 ∨ f.kd = 2 ∨ f.kd = 3 then bw f.b f.s + f.t else if f.kd = 7 then widthI m f.s else 0
def kerB (f : Fc) : Bool := decide (f.k = 1 ∧ (f.kd = 1 ∨ f.kd = 2))
def meetI (a f : Fc) : Int := if kerB a = true ∧ kerB f = true ∧ a.s = f.s then kernI a.b f.b f.s else 0

set_option maxRecDepth 100000 in
set_option maxHeartbeats 1000000 in
theorem wide_any (f : Fc) (hf : Fok f) (m : ByteArray) (hm : m.size ≤ 4096) (w : World) : Calls Try.prog 72 #[fcV f, .string m] w fun e w' => e = .returned (.int .i64 (wdI f m)) ∧ Below w.heap.size w w' := by
  obtain ⟨kd, b, s, t, k⟩ := f
  obtain ⟨⟨s0, s1⟩, ⟨t0, t1⟩, hb⟩ := hf
  simp only at s0 s1 t0 t1 hb
  have hB := (Below.refl w.heap.size w).alloc (Nat.le_refl _) (Obj.cells #[.int .i64 kd, .int .u8 b, .int .i64 s, .int .i64 t, .int .i64 k] 131)
  have hE := em_any b
  obtain ⟨hm0, hm1⟩ := bw_mul b s0 s1
  have hd : (emI b * s).tdiv 8 = emI b * s / 8 := Int.tdiv_eq_ediv_of_nonneg hm0
  have hW := width_any m s s0 s1 hm
  have hvis : Hid ((kd = 1 ∨ kd = 2 ∨ kd = 3) → wdI ⟨kd, b, s, t, k⟩ m = emI b * s / 8 + t) := fun h => if_pos h
  have href : Hid (kd = 7 → wdI ⟨kd, b, s, t, k⟩ m = widthI m s) := fun h => by unfold wdI; simp only; rw [if_neg (by omega), if_pos h]
  have hno : Hid (¬ (kd = 1 ∨ kd = 2 ∨ kd = 3) → kd ≠ 7 → wdI ⟨kd, b, s, t, k⟩ m = 0) := fun h h7 => by unfold wdI; simp only; rw [if_neg h, if_neg h7]
  generalize wdI ⟨kd, b, s, t, k⟩ m = r at *
  show Calls Try.prog 72 #[.agg #[.int .i64 kd, .int .u8 b, .int .i64 s, .int .i64 t, .int .i64 k], .string m] w _
  generalize emI b = e0 at *
  by_cases hv : kd = 1 ∨ kd = 2 ∨ kd = 3
  · have hr := hvis.out hv
    subst hr
    clear hvis href hno hW
    rcases hv with rfl | rfl | rfl
    all_goals
      go_enter Try.func72, Try.ntmps72
      go_wp2_with fail
      go_quiet (first | (go_at_call 92; refine Calls.quiet_of_same (hE _)))
      go_wp2_with fail
      go_ret
      exact ⟨rfl, below_drewN hB _⟩
  · by_cases h7 : kd = 7
    · have hr := href.out h7
      subst hr
      subst h7
      clear hvis href hno hE
      go_enter Try.func72, Try.ntmps72
      go_wp2_with (go_at_call 93; refine (hW _).mono ?_; rintro e w' ⟨rfl, hww⟩; subst w')
      go_ret
      exact ⟨rfl, hB⟩
    · have hr := hno.out hv h7
      subst hr
      have f1 : (kd == 1) = false := by simp; omega
      have f2 : (kd == 2) = false := by simp; omega
      have f3 : (kd == 3) = false := by simp; omega
      have f7 : (kd == 7) = false := by simp; omega
      clear hvis href hno hE hW hv h7
      go_enter Try.func72, Try.ntmps72
      go_wp2_with fail
      go_ret
      exact ⟨rfl, hB⟩

set_option maxRecDepth 100000 in
set_option maxHeartbeats 1000000 in
theorem isKerned_any (f : Fc) (w : World) : Calls Try.prog 94 #[fcV f] w fun e w' => e = .returned (.bool (kerB f)) ∧ Below w.heap.size w w' := by
  obtain ⟨kd, b, s, t, k⟩ := f
  have hB := (Below.refl w.heap.size w).alloc (Nat.le_refl _) (Obj.cells #[.int .i64 kd, .int .u8 b, .int .i64 s, .int .i64 t, .int .i64 k] 131)
  have hk : kerB ⟨kd, b, s, t, k⟩ = decide (k = 1 ∧ (kd = 1 ∨ kd = 2)) := rfl
  rw [hk]
  show Calls Try.prog 94 #[.agg #[.int .i64 kd, .int .u8 b, .int .i64 s, .int .i64 t, .int .i64 k]] w _
  clear hk
  by_cases h1 : k = 1
  · by_cases h2 : kd = 1
    · rw [decide_eq_true ⟨h1, .inl h2⟩]
      subst h1 h2
      go_enter Try.func94, Try.ntmps94
      go_wp2_with fail
      go_ret
      exact ⟨rfl, hB⟩
    · have f1 : (kd == 1) = false := by simpa using h2
      by_cases h3 : kd = 2
      · rw [decide_eq_true ⟨h1, .inr h3⟩]
        subst h1 h3
        go_enter Try.func94, Try.ntmps94
        go_wp2_with fail
        go_ret
        exact ⟨rfl, hB⟩
      · have f2 : (kd == 2) = false := by simpa using h3
        rw [decide_eq_false (by omega)]
        subst h1
        clear h2 h3
        go_enter Try.func94, Try.ntmps94
        go_wp2_with fail
        go_ret
        exact ⟨by first | rfl | (congr 2), hB⟩
  · have f1 : (k == 1) = false := by simpa using h1
    rw [decide_eq_false (by omega)]
    clear h1
    go_enter Try.func94, Try.ntmps94
    go_wp2_with fail
    go_ret
    exact ⟨rfl, hB⟩

structure FB (w : World) (B : Nat) (f : Fc) : Prop where
  row : w.heap[B]? = some (.cells (fcC f) 131 (0, 0))
theorem FB.lt {w : World} {B : Nat} {f : Fc} (h : FB w B f) : B < w.heap.size := (Array.getElem?_eq_some_iff.1 h.row).1
theorem FB.below {w w' : World} {n B : Nat} {f : Fc} (h : FB w B f) (hb : Below n w w') (hn : B < n) : FB w' B f := ⟨(hb.block B hn).trans h.row⟩
theorem FB.turns {X : Nat → Prop} {w w' : World} {B : Nat} {f : Fc} (h : FB w B f) (hb : Turns X w w') (hn : ¬ X B) : FB w' B f := ⟨(hb.block B h.lt hn).trans h.row⟩
theorem FB.new (w : World) (f : Fc) : FB (w.alloc (.cells (fcC f) 131)) w.heap.size f := ⟨World.alloc_heap_new w _⟩
theorem FB.cell {w : World} {B : Nat} {f : Fc} (h : FB w B f) {k : Nat} {v : Value} (hk : (fcC f)[k]? = some v) : w.cell? ⟨B, k, none⟩ = some v := by
  rw [Lib.cell_of_heap h.row, hk]
theorem FB.c0 {w : World} {B : Nat} {f : Fc} (h : FB w B f) : w.cell? ⟨B, 0, none⟩ = some (.int .i64 f.kd) := h.cell rfl
theorem FB.c1 {w : World} {B : Nat} {f : Fc} (h : FB w B f) : w.cell? ⟨B, 1, none⟩ = some (.int .u8 f.b) := h.cell rfl
theorem FB.c2 {w : World} {B : Nat} {f : Fc} (h : FB w B f) : w.cell? ⟨B, 2, none⟩ = some (.int .i64 f.s) := h.cell rfl
theorem FB.c3 {w : World} {B : Nat} {f : Fc} (h : FB w B f) : w.cell? ⟨B, 3, none⟩ = some (.int .i64 f.t) := h.cell rfl
theorem FB.c4 {w : World} {B : Nat} {f : Fc} (h : FB w B f) : w.cell? ⟨B, 4, none⟩ = some (.int .i64 f.k) := h.cell rfl
theorem info68 (f : Fc) : (Try.prog.info? 131).map (·.size) = some (fcC f).size := by show _ = some 5; kernel_rfl

set_option maxRecDepth 100000 in
set_option maxHeartbeats 1000000 in
theorem meet_any (f g : Fc) (hg : Fok g) (w : World) : Calls Try.prog 73 #[fcV f, fcV g] w fun e w' => e = .returned (.int .i64 (meetI f g)) ∧ Below w.heap.size w w' := by
  have hB0 := (Below.refl w.heap.size w).alloc (Nat.le_refl _) (Obj.cells (fcC f) 131)
  have hB := hB0.alloc hB0.size (Obj.cells (fcC g) 131)
  have hF0 := FB.new w f
  have hF : FB ((w.alloc (.cells (fcC f) 131)).alloc (.cells (fcC g) 131)) w.heap.size f := ⟨(Below.heap_alloc _ _ _ (by simp)).trans hF0.row⟩
  have hG : FB ((w.alloc (.cells (fcC f) 131)).alloc (.cells (fcC g) 131)) (w.heap.size + 1) g := by have := FB.new (w.alloc (.cells (fcC f) 131)) g; rwa [World.size_alloc] at this
  have hi := isKerned_any f
  have hj := isKerned_any g
  have hsz : ((w.alloc (.cells (fcC f) 131)).alloc (.cells (fcC g) 131)).heap.size = w.heap.size + 2 := by simp
  unfold fcV at *
  clear hF0 hB0
  generalize hw1 : (w.alloc (.cells (fcC f) 131)).alloc (.cells (fcC g) 131) = w1 at *
  cases h1 : kerB f
  · have hr : meetI f g = 0 := if_neg (by simp [h1])
    rw [hr]
    rw [h1] at hi
    clear hj hr h1
    go_enter Try.func73, Try.ntmps73
    go_wp2_with (refine wpList_load_row rfl 131 _ rfl w.heap.size rfl 131 _ (0, 0) _ hF.row Try.underlying131 rfl (info68 f) ?_)
    refine (hi _).mono ?_
    rintro e w2 ⟨rfl, hb2⟩
    have hB2 := hB.trans (hb2.mono hB.size)
    go_wp2_with fail
    go_ret
    exact ⟨rfl, hB2⟩
  · cases h2 : kerB g
    · have hr : meetI f g = 0 := if_neg (by simp [h2])
      rw [hr]
      rw [h1] at hi
      rw [h2] at hj
      clear hr h1 h2
      go_enter Try.func73, Try.ntmps73
      go_wp2_with (refine wpList_load_row rfl 131 _ rfl w.heap.size rfl 131 _ (0, 0) _ hF.row Try.underlying131 rfl (info68 f) ?_)
      refine (hi _).mono ?_
      rintro e w2 ⟨rfl, hb2⟩
      have hB2 := hB.trans (hb2.mono hB.size)
      have hG2 := hG.below hb2 hG.lt
      go_wp2_with (refine wpList_load_want 131 _ rfl (by rfl) (w.heap.size + 1) rfl 131 _ (0, 0) _ hG2.row Try.underlying131 rfl (info68 g) ?_)
      refine (hj _).mono ?_
      rintro e w3 ⟨rfl, hb3⟩
      have hB3 := hB2.trans (hb3.mono hB2.size)
      go_wp2_with fail
      go_ret
      exact ⟨rfl, hB3⟩
    · rw [h1] at hi
      rw [h2] at hj
      by_cases h3 : f.s = g.s
      · have hr : meetI f g = kernI f.b g.b g.s := if_pos ⟨h1, h2, h3⟩
        rw [hr]
        have hK := kern_any f.b g.b g.s hg.s.1 hg.s.2
        have q0 : (f.s != g.s) = false := by simp [h3]
        clear hr h1 h2 h3
        go_enter Try.func73, Try.ntmps73
        go_wp2_with (refine wpList_load_row rfl 131 _ rfl w.heap.size rfl 131 _ (0, 0) _ hF.row Try.underlying131 rfl (info68 f) ?_)
        refine (hi _).mono ?_
        rintro e w2 ⟨rfl, hb2⟩
        have hB2 := hB.trans (hb2.mono hB.size)
        have hG2 := hG.below hb2 hG.lt
        have hF2 := hF.below hb2 hF.lt
        go_wp2_with (refine wpList_load_want 131 _ rfl (by rfl) (w.heap.size + 1) rfl 131 _ (0, 0) _ hG2.row Try.underlying131 rfl (info68 g) ?_)
        refine (hj _).mono ?_
        rintro e w3 ⟨rfl, hb3⟩
        have hB3 := hB2.trans (hb3.mono hB2.size)
        have hG3 := hG2.below hb3 hG2.lt
        have hF3 := hF2.below hb3 hF2.lt
        have c1 := hF3.c1; have c2 := hF3.c2; have d1 := hG3.c1; have d2 := hG3.c2
        clear hG hF hG2 hF2 hG3 hF3
        go_wp2_with (go_at_call 95; refine (hK _).mono ?_; rintro e w' ⟨rfl, hww⟩; subst w')
        go_ret
        exact ⟨rfl, hB3⟩
      · have hr : meetI f g = 0 := if_neg (by simp [h3])
        rw [hr]
        have q0 : (f.s != g.s) = true := by simp [h3]
        clear hr h1 h2 h3
        go_enter Try.func73, Try.ntmps73
        go_wp2_with (refine wpList_load_row rfl 131 _ rfl w.heap.size rfl 131 _ (0, 0) _ hF.row Try.underlying131 rfl (info68 f) ?_)
        refine (hi _).mono ?_
        rintro e w2 ⟨rfl, hb2⟩
        have hB2 := hB.trans (hb2.mono hB.size)
        have hG2 := hG.below hb2 hG.lt
        have hF2 := hF.below hb2 hF.lt
        go_wp2_with (refine wpList_load_want 131 _ rfl (by rfl) (w.heap.size + 1) rfl 131 _ (0, 0) _ hG2.row Try.underlying131 rfl (info68 g) ?_)
        refine (hj _).mono ?_
        rintro e w3 ⟨rfl, hb3⟩
        have hB3 := hB2.trans (hb3.mono hB2.size)
        have hG3 := hG2.below hb3 hG2.lt
        have hF3 := hF2.below hb3 hF2.lt
        have c1 := hF3.c1; have c2 := hF3.c2; have d1 := hG3.c1; have d2 := hG3.c2
        clear hG hF hG2 hF2 hG3 hF3
        go_wp2_with fail
        go_ret
        exact ⟨rfl, hB3⟩

end Go.Proofs.Ytkhnfmdhdfpdhaa
