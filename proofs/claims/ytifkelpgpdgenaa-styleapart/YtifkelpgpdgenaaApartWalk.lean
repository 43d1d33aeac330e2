/-
  What is proved here: StyleApart's walk.
-/
import Derived.Test.YtifkelpgpdgenaaAwakeB
namespace Go.Proofs.Ytifkelpgpdgenaa
open Go.RowKit Go.Shelf

theorem wpList_eql23_want {ops : Array Oper} {rest : List Oper} {o : Oper} {a : Act} {w : World} {Q : Exit → Act → World → Prop} (x y : Operand) (ho : o.op = .binOp .eql 23 x y 23) (hw : Region.wanted o (yielded ops a.tmps) = true)
    (m : List Int) (hm : m.length = 17) (hx : a.eval x = .agg (prC m)) (hy : a.eval y = .agg (prC m))
    (h : wpList Try.prog ops Q rest (a.put o.dst (.bool true)) w) : wpList Try.prog ops Q (o :: rest) a w :=
  BigFrame.wpList_want hw fun K hK => by
    have he := eql_same m hm w
    have hg := run_eqGuard_agg w .eql 23 x y (prC m) (prC m) guard23
    unfold prV at he
    unfold Oper.wp execOp
    simp only [ho, hx, hy, Sem.run_bind, hg, he, Result.andThen_ok, Sem.run_pure]
    exact hK _ _ h

def sc : Str := ⟨#[99]⟩
def sd : Str := ⟨#[100]⟩
theorem applyL_nil (l : List Int) : applyL l [] = l := rfl

/-- What the two styles are. -/
def Keeps (A B : List (Int × Int)) (S : Sh) : Prop := S sa = some (e0, A) ∧ S sb = some (sa, B)
theorem Keeps.a {A B : List (Int × Int)} {S : Sh} (h : Keeps A B S) (l : List Int) : Makes S l sa (applyL l A) := .style h.1 (by decide) .top
theorem Keeps.b {A B : List (Int × Int)} {S : Sh} (h : Keeps A B S) (l : List Int) : Makes S l sb (applyL (applyL l A) B) := .style h.2 (by decide) (h.a l)
theorem Keeps.upd {A B : List (Int × Int)} {S : Sh} (h : Keeps A B S) {s : Str} (h1 : s ≠ sa) (h2 : s ≠ sb) (x : Sty) : Keeps A B (upd S s x) :=
  ⟨by rw [upd_other _ _ h1.symm]; exact h.1, by rw [upd_other _ _ h2.symm]; exact h.2⟩
theorem defPost_keeps {w w' : World} {t b n : Nat} {S : Sh} {name parent : Str} {L : List (Int × Int)} {e : Ending} {A B : List (Int × Int)} (h : defPost w t b n S name parent L e w') (hk : Keeps A B S) (h1 : name ≠ sa) (h2 : name ≠ sb) :
    ∃ (d : Int) (n' : Nat) (S' : Sh), e = .returned (.int .i64 d) ∧ Only b w w' ∧ SheetAt w' t b n' S' ∧ WF S' ∧ Keeps A B S' := by
  obtain ⟨g1, g2, n', S', g3, g4, g5, g6⟩ := h
  refine ⟨_, n', S', g1, g2, g3, g4, ?_⟩
  by_cases hd : defE S n name parent L = 0
  · rw [(g6 hd).1]; exact hk.upd h1 h2 _
  · rw [(g5 hd).1]; exact hk
theorem PB_only {w w' : World} {B t b n : Nat} {S : Sh} {l : List Int} (h : PB w B 23 l) (ho : Only b w w') (hs : SheetAt w t b n S) : PB w' B 23 l := by
  refine ⟨h.len, (ho.block B h.lt ?_).trans h.row⟩
  obtain ⟨es, clock, hm⟩ := hs.isMap
  simp; intro e; subst e
  rw [h.row] at hm; cases hm

set_option maxRecDepth 100000 in
set_option maxHeartbeats 8000000 in
theorem apart_walk (va vb vc vm : Value) (A Bs C M : List (Int × Int)) (w : World) (hA : SetsAt w va A) (hBs : SetsAt w vb Bs) (hC : SetsAt w vc C) (hM : SetsAt w vm M) :
    Calls Try.prog 7 #[va, vb, vc, vm] w fun e w' => e = .returned (.bool true) ∧ Below w.heap.size w w' := by
  have hAl : (applyL baseL A).length = 17 := by rw [applyL_length]; rfl
  have hBl : (applyL (applyL baseL A) Bs).length = 17 := by rw [applyL_length]; exact hAl
  have la := hA.few
  have lb := hBs.few
  have lc := hC.few
  have lm := hM.few
  obtain ⟨a0, cp0, rfl, _⟩ := hA.ex
  obtain ⟨a1, cp1, rfl, _⟩ := hBs.ex
  obtain ⟨a2, cp2, rfl, _⟩ := hC.ex
  obtain ⟨a3, cp3, rfl, _⟩ := hM.ex
  go_enter Try.func7, Try.ntmps7
  go_wp2_with fail
  refine (awake_any w).mono ?_
  rintro e w0 ⟨rfl, B0⟩
  go_wp2_with fail
  refine (new_any w0).mono ?_
  rintro e w1 ⟨t, b, rfl, ht, hb0, h1, b1⟩
  have Bw1 := B0.trans (b1.mono B0.size)
  have hb : w.heap.size ≤ b := Nat.le_trans B0.size hb0
  clear b1
  by_cases g1 : 20 < A.length
  · have g1' : (20 : Int) < (A.length : Int) := by omega
    go_wp2_with fail
    go_ret
    exact ⟨rfl, Bw1⟩
  by_cases g2 : 20 < Bs.length
  · have g1' : ¬ (20 : Int) < (A.length : Int) := by omega
    have g2' : (20 : Int) < (Bs.length : Int) := by omega
    go_wp2_with fail
    go_ret
    exact ⟨rfl, Bw1⟩
  by_cases g3 : 20 < C.length
  · have g1' : ¬ (20 : Int) < (A.length : Int) := by omega
    have g2' : ¬ (20 : Int) < (Bs.length : Int) := by omega
    have g3' : (20 : Int) < (C.length : Int) := by omega
    go_wp2_with fail
    go_ret
    exact ⟨rfl, Bw1⟩
  by_cases g4 : 20 < M.length
  · have g1' : ¬ (20 : Int) < (A.length : Int) := by omega
    have g2' : ¬ (20 : Int) < (Bs.length : Int) := by omega
    have g3' : ¬ (20 : Int) < (C.length : Int) := by omega
    have g4' : (20 : Int) < (M.length : Int) := by omega
    go_wp2_with fail
    go_ret
    exact ⟨rfl, Bw1⟩
  have g1' : ¬ (20 : Int) < (A.length : Int) := by omega
  have g2' : ¬ (20 : Int) < (Bs.length : Int) := by omega
  have g3' : ¬ (20 : Int) < (C.length : Int) := by omega
  have g4' : ¬ (20 : Int) < (M.length : Int) := by omega
  go_wp2_with fail
  clear g1 g2 g3 g4 g1' g2' g3' g4'
  refine (define_any t b 0 _ wf_none sa e0 (by decide) _ A w1 h1 (hA.below Bw1)).mono ?_
  intro e w2 p2
  by_cases d2 : defE (fun _ => none) 0 sa e0 A = 0
  · obtain ⟨rfl, o2, h2, f2⟩ := p2.ok d2
    have Bw2 := Only.below Bw1 hb (Nat.le_refl _) o2
    clear p2 o2 h1 d2
    go_wp2_with fail
    refine (define_any t b _ _ f2 sb sa (by decide) _ Bs w2 h2 (hBs.below Bw2)).mono ?_
    intro e w3 p3
    by_cases d3 : defE (upd (fun _ => none) sa (e0, A)) (cntN (fun _ => none) sa 0) sb sa Bs = 0
    · obtain ⟨rfl, o3, h3, f3⟩ := p3.ok d3
      have Bw3 := Only.below Bw2 hb (Nat.le_refl _) o3
      have k3 : Keeps A Bs (upd (upd (fun _ => none) sa (e0, A)) sb (sa, Bs)) := ⟨by rw [upd_other _ _ sab, upd_same], upd_same _ _ _⟩
      generalize upd (upd (fun _ => none) sa (e0, A)) sb (sa, Bs) = S3 at h3 f3 k3
      generalize cntN (upd (fun _ => none) sa (e0, A)) sb (cntN (fun _ => none) sa 0) = n3 at h3
      clear p3 o3 h2 f2 d3
      go_wp2_with fail
      refine (resolve_any t b _ _ f3 sb (by decide) _ [] w3 h3 (sets_nil w3)).mono ?_
      intro e x4 p4
      obtain ⟨rfl, _, b4⟩ := p4.ok (resE_ok (.inr (by rw [k3.2]; rfl)) (by decide)) (k3.b baseL)
      rw [applyL_nil]
      have B4x := Bw3.trans (b4.mono Bw3.size)
      have h4x := h3.below b4
      obtain ⟨N4, c4⟩ := made23 x4 (l := (applyL (applyL baseL A) Bs)) hBl
      have Bw4 := B4x.trans (c4.mono B4x.size)
      have h4 := h4x.below c4
      obtain ⟨w4, hw4⟩ : ∃ y, (x4.alloc (.cells #[Value.int IntKind.i64 0, Value.int IntKind.i64 0, Value.int IntKind.i64 0, Value.int IntKind.i64 0, Value.int IntKind.i64 0, Value.int IntKind.i64 0, Value.int IntKind.i64 0, Value.int IntKind.i64 0, Value.int IntKind.i64 0, Value.int IntKind.i64 0, Value.int IntKind.i64 0, Value.int IntKind.i64 0, Value.int IntKind.i64 0, Value.int IntKind.i64 0, Value.int IntKind.i64 0, Value.int IntKind.i64 0, Value.int IntKind.i64 0] 23)).setRow x4.heap.size (prC (applyL (applyL baseL A) Bs)) = y := ⟨_, rfl⟩
      rw [hw4] at  N4 c4 Bw4 h4
      clear p4  h4x
      go_wp2_with (refine wpList_store_row rfl 23 _ _ rfl x4.heap.size (prC (applyL (applyL baseL A) Bs)) rfl rfl 23 _ (heap_new x4 _) (info23l hBl) (by rw [prC_size, hBl]; rfl) (prC_one _) ?_; rw [hw4])
      clear hw4
      refine (resolve_any t b _ _ f3 sa (by decide) _ [] w4 h4 (sets_nil w4)).mono ?_
      intro e x5 p5
      obtain ⟨rfl, _, b5⟩ := p5.ok (resE_ok (.inr (by rw [k3.1]; rfl)) (by decide)) (k3.a baseL)
      rw [applyL_nil]
      have B5x := Bw4.trans (b5.mono Bw4.size)
      have h5x := h4.below b5
      have N45x := N4.below b5 N4.lt
      obtain ⟨N5, c5⟩ := made23 x5 (l := (applyL baseL A)) hAl
      have Bw5 := B5x.trans (c5.mono B5x.size)
      have h5 := h5x.below c5
      replace N4 := N45x.below c5 N45x.lt
      obtain ⟨w5, hw5⟩ : ∃ y, (x5.alloc (.cells #[Value.int IntKind.i64 0, Value.int IntKind.i64 0, Value.int IntKind.i64 0, Value.int IntKind.i64 0, Value.int IntKind.i64 0, Value.int IntKind.i64 0, Value.int IntKind.i64 0, Value.int IntKind.i64 0, Value.int IntKind.i64 0, Value.int IntKind.i64 0, Value.int IntKind.i64 0, Value.int IntKind.i64 0, Value.int IntKind.i64 0, Value.int IntKind.i64 0, Value.int IntKind.i64 0, Value.int IntKind.i64 0, Value.int IntKind.i64 0] 23)).setRow x5.heap.size (prC (applyL baseL A)) = y := ⟨_, rfl⟩
      rw [hw5] at N4 N5 c5 Bw5 h5
      clear p5 N45x h5x
      go_wp2_with (refine wpList_store_row rfl 23 _ _ rfl x5.heap.size (prC (applyL baseL A)) rfl rfl 23 _ (heap_new x5 _) (info23l hAl) (by rw [prC_size, hAl]; rfl) (prC_one _) ?_; rw [hw5])
      clear hw5
      refine (define_any t b _ _ f3 sc sb (by decide) _ C w5 h5 (hC.below Bw5)).mono ?_
      intro e w6 p6
      obtain ⟨d6, n6, S6', rfl, o6, h6, f6, k6⟩ := defPost_keeps p6 k3 (by decide) (by decide)
      have Bw6 := Only.below Bw5 hb (Nat.le_refl _) o6
      replace N4 := PB_only N4 o6 h5
      replace N5 := PB_only N5 o6 h5
      clear p6 o6 h5
      go_wp2_with fail
      refine (define_any t b _ _ f6 sd e0 (by decide) _ M w6 h6 (hM.below Bw6)).mono ?_
      intro e w7 p7
      obtain ⟨d7, n7, S7', rfl, o7, h7, f7, k7⟩ := defPost_keeps p7 k6 (by decide) (by decide)
      have Bw7 := Only.below Bw6 hb (Nat.le_refl _) o7
      replace N4 := PB_only N4 o7 h6
      replace N5 := PB_only N5 o7 h6
      clear p7 o7 h6
      go_wp2_with fail
      refine (define_any t b _ _ f7 sc sa (by decide) _ M w7 h7 (hM.below Bw7)).mono ?_
      intro e w8 p8
      obtain ⟨d8, n8, S8', rfl, o8, h8, f8, k8⟩ := defPost_keeps p8 k7 (by decide) (by decide)
      have Bw8 := Only.below Bw7 hb (Nat.le_refl _) o8
      replace N4 := PB_only N4 o8 h7
      replace N5 := PB_only N5 o8 h7
      clear p8 o8 h7
      go_wp2_with fail
      refine (resolve_any t b _ _ f8 sb (by decide) _ [] w8 h8 (sets_nil w8)).mono ?_
      intro e x9 p9
      obtain ⟨rfl, _, b9⟩ := p9.ok (resE_ok (.inr (by rw [k8.2]; rfl)) (by decide)) (k8.b baseL)
      rw [applyL_nil]
      have B9x := Bw8.trans (b9.mono Bw8.size)
      have h9x := h8.below b9
      have N49x := N4.below b9 N4.lt
      have N59x := N5.below b9 N5.lt
      obtain ⟨N9, c9⟩ := made23 x9 (l := (applyL (applyL baseL A) Bs)) hBl
      have Bw9 := B9x.trans (c9.mono B9x.size)
      have h9 := h9x.below c9
      replace N4 := N49x.below c9 N49x.lt
      replace N5 := N59x.below c9 N59x.lt
      obtain ⟨w9, hw9⟩ : ∃ y, (x9.alloc (.cells #[Value.int IntKind.i64 0, Value.int IntKind.i64 0, Value.int IntKind.i64 0, Value.int IntKind.i64 0, Value.int IntKind.i64 0, Value.int IntKind.i64 0, Value.int IntKind.i64 0, Value.int IntKind.i64 0, Value.int IntKind.i64 0, Value.int IntKind.i64 0, Value.int IntKind.i64 0, Value.int IntKind.i64 0, Value.int IntKind.i64 0, Value.int IntKind.i64 0, Value.int IntKind.i64 0, Value.int IntKind.i64 0, Value.int IntKind.i64 0] 23)).setRow x9.heap.size (prC (applyL (applyL baseL A) Bs)) = y := ⟨_, rfl⟩
      rw [hw9] at N4 N5 N9 c9 Bw9 h9
      clear p9 N49x N59x h9x
      go_wp2_with (refine wpList_store_row rfl 23 _ _ rfl x9.heap.size (prC (applyL (applyL baseL A) Bs)) rfl rfl 23 _ (heap_new x9 _) (info23l hBl) (by rw [prC_size, hBl]; rfl) (prC_one _) ?_; rw [hw9])
      clear hw9
      refine (resolve_any t b _ _ f8 sa (by decide) _ [] w9 h9 (sets_nil w9)).mono ?_
      intro e x10 p10
      obtain ⟨rfl, _, b10⟩ := p10.ok (resE_ok (.inr (by rw [k8.1]; rfl)) (by decide)) (k8.a baseL)
      rw [applyL_nil]
      have B10x := Bw9.trans (b10.mono Bw9.size)
      have h10x := h9.below b10
      have N410x := N4.below b10 N4.lt
      have N510x := N5.below b10 N5.lt
      have N910x := N9.below b10 N9.lt
      obtain ⟨N10, c10⟩ := made23 x10 (l := (applyL baseL A)) hAl
      have Bw10 := B10x.trans (c10.mono B10x.size)
      have h10 := h10x.below c10
      replace N4 := N410x.below c10 N410x.lt
      replace N5 := N510x.below c10 N510x.lt
      replace N9 := N910x.below c10 N910x.lt
      obtain ⟨w10, hw10⟩ : ∃ y, (x10.alloc (.cells #[Value.int IntKind.i64 0, Value.int IntKind.i64 0, Value.int IntKind.i64 0, Value.int IntKind.i64 0, Value.int IntKind.i64 0, Value.int IntKind.i64 0, Value.int IntKind.i64 0, Value.int IntKind.i64 0, Value.int IntKind.i64 0, Value.int IntKind.i64 0, Value.int IntKind.i64 0, Value.int IntKind.i64 0, Value.int IntKind.i64 0, Value.int IntKind.i64 0, Value.int IntKind.i64 0, Value.int IntKind.i64 0, Value.int IntKind.i64 0] 23)).setRow x10.heap.size (prC (applyL baseL A)) = y := ⟨_, rfl⟩
      rw [hw10] at N4 N5 N9 N10 c10 Bw10 h10
      clear p10 N410x N510x N910x h10x
      go_wp2_with (first | refine wpList_load_want 23 _ rfl (by kernel_rfl) x4.heap.size rfl 23 _ (0, 0) _ N4.row Try.underlying23 rfl (info23l hBl) ?_ | refine wpList_load_want 23 _ rfl (by kernel_rfl) x9.heap.size rfl 23 _ (0, 0) _ N9.row Try.underlying23 rfl (info23l hBl) ?_ | refine wpList_load_want 23 _ rfl (by kernel_rfl) x5.heap.size rfl 23 _ (0, 0) _ N5.row Try.underlying23 rfl (info23l hAl) ?_ | refine wpList_load_want 23 _ rfl (by kernel_rfl) x10.heap.size rfl 23 _ (0, 0) _ N10.row Try.underlying23 rfl (info23l hAl) ?_ | refine wpList_eql23_want _ _ rfl (by kernel_rfl) _ hBl rfl rfl ?_ | refine wpList_eql23_want _ _ rfl (by kernel_rfl) _ hAl rfl rfl ?_ | (refine wpList_store_row rfl 23 _ _ rfl x10.heap.size (prC (applyL baseL A)) rfl rfl 23 _ (heap_new x10 _) (info23l hAl) (by rw [prC_size, hAl]; rfl) (prC_one _) ?_; rw [hw10]))
      go_ret
      exact ⟨rfl, Bw10⟩
    · obtain ⟨rfl, o3, n3, S3, h3, _⟩ := p3
      have Bw3 := Only.below Bw2 hb (Nat.le_refl _) o3
      generalize defE (upd (fun _ => none) sa (e0, A)) (cntN (fun _ => none) sa 0) sb sa Bs = dd at *
      have e1 : (dd == 0) = false := by simpa using d3
      have e2 : (dd != 0) = true := by simpa using d3
      go_wp2_with fail
      go_ret
      exact ⟨rfl, Bw3⟩
  · obtain ⟨rfl, o2, n2, S2', h2, _⟩ := p2
    have Bw2 := Only.below Bw1 hb (Nat.le_refl _) o2
    generalize defE (fun _ => none) 0 sa e0 A = dd at *
    have e1 : (dd == 0) = false := by simpa using d2
    have e2 : (dd != 0) = true := by simpa using d2
    go_wp2_with fail
    go_ret
    exact ⟨rfl, Bw2⟩
end Go.Proofs.Ytifkelpgpdgenaa
