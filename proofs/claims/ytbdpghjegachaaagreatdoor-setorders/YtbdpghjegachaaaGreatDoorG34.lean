/-
  What is proved here: bounds of a line's glyphs (no program is named).
  What is proved here: what refusePlace and Next of cluster tell.
  What is proved here: how the glyphs of a line stand to one another (no program is named).
-/
import Derived.Test.YtbdpghjegachaaaGreatDoorG33
namespace Go.Proofs.YtbdpghjegachaaaGreatDoor
open Go.RowKit Go.Shelf

def GB (g : Gl) : Prop := (-1000000000000 ≤ g.x ∧ g.x ≤ 1000000000000) ∧ -200000000 ≤ g.w ∧ g.w ≤ 200000000
theorem glS_rng {M : Nat → Ms} {N : Nat} {x : Int} (hN : N ≤ 4096) (hx : -1000000000 ≤ x ∧ x ≤ 1000000000) (hM : ∀ i,i < N → (-64 ≤ (M i).q ∧ (M i).q ≤ 0) ∧ -200000000 ≤ (M i).w ∧ (M i).w ≤ 200000000) : ∀ k,k ≤ N → ∀ g ∈ glS M x k,GB g
 | 0,_,g,hg => by simp [glS] at hg
 | k + 1, hk, g, hg => by
  unfold glS at hg
  rcases List.mem_append.1 hg with hg | hg
  ·exact glS_rng hN hx hM k (by omega) g hg
  ·have e : g = ⟨(M k).f,(M k).t,psN M x k + (M k).q,(M k).w⟩ := by simpa using hg
   have h1 := psN_rng hx hM k (by omega)
   have h2 := hM k (by omega)
   subst e
   refine ⟨?_,h2.2⟩
   show -1000000000000 ≤ psN M x k + (M k).q ∧ psN M x k + (M k).q ≤ 1000000000000
   omega
theorem alM_rng {M : Nat → Ms} {N s n : Nat} {al x rm : Int} {last : Bool} (hs : s + n ≤ N) (hN : N ≤ 4096) (hM : ∀ i,i < N → MOk (M i)) (hrm : -50000000 ≤ rm ∧ rm ≤ 50000000) : ∀ i,i < N → (-64 ≤ (alM al last (tabM M s x n) s n rm i).q ∧ (alM al last (tabM M s x n) s n rm i).q ≤ 0) ∧ -200000000 ≤ (alM al last (tabM M s x n) s n rm i).w ∧ (alM al last (tabM M s x n) s n rm i).w ≤ 200000000 := fun i hi => by
 have e1 := tabM_rng (s := s) (n := n) (x := x) hM hi
 have hm := hM i hi
 have := hm.q0
 have := hm.q1
 unfold alM
 split
 ·have e2 := spF_rng (last := last) (M := tabM M s x n) (rm := rm) hs hN (fun j hj => ⟨(tabM_rng (s := s) (n := n) (x := x) hM hj).2.2.2.2.1,(tabM_rng (s := s) (n := n) (x := x) hM hj).2.2.2.2.2⟩) hrm hi
  omega
 ·omega
theorem mvI_rng {al rm : Int} (h : -50000000 ≤ rm ∧ rm ≤ 50000000) : 0 ≤ mvI al rm ∧ mvI al rm ≤ 50000000 := by
 have h1 : 0 ≤ posI rm ∧ posI rm ≤ 50000000 := by unfold posI; split <;> omega
 unfold mvI
 split
 ·exact h1
 ·split <;> omega
theorem fiL_rng {a : Pa} {l : Ln} {last : Bool} {M : Nat → Ms} {s n N : Nat} {hh : Int} {L : List Gl} (hs : s + n ≤ N) (hN : N ≤ 4096) (hM : ∀ i,i < N → MOk (M i)) (hlx : 0 ≤ l.x ∧ l.x ≤ 4095) (hlw : 0 ≤ l.w ∧ l.w ≤ 4095) (hhh : 0 ≤ hh ∧ hh ≤ 64) (hL : ∀ g ∈ L,GB g) : ∀ g ∈ fiL a l last M s n N hh L,GB g := fun g hg => by
 have hat := atN_rng hM (s := s) hlx.1 n hs
 have hrm : -50000000 ≤ (l.w - (atQ M s l.x n + hh - l.x)) ∧ (l.w - (atQ M s l.x n + hh - l.x)) ≤ 50000000 := by omega
 have hmv := mvI_rng (al := a.p.p2) hrm
 have h4 := alM_rng (al := a.p.p2) (x := l.x) (last := last) hs hN hM hrm
 have hx : -1000000000 ≤ l.x + mvI a.p.p2 (l.w - (atQ M s l.x n + hh - l.x)) ∧ l.x + mvI a.p.p2 (l.w - (atQ M s l.x n + hh - l.x)) ≤ 1000000000 := by omega
 unfold fiL at hg
 rcases List.mem_append.1 hg with hg | hg
 ·rcases List.mem_append.1 hg with hg | hg
  ·exact hL g hg
  ·exact glS_rng hN hx h4 N (Nat.le_refl _) g hg
 ·split at hg
  ·have e : g = ⟨l.t,l.t,psN (alM a.p.p2 last (tabM M s l.x n) s n (l.w - (atQ M s l.x n + hh - l.x))) (l.x + mvI a.p.p2 (l.w - (atQ M s l.x n + hh - l.x))) N,hh⟩ := by simpa using hg
   have h1 := psN_rng hx h4 N (Nat.le_refl _)
   rw [e]
   refine ⟨?_,?_⟩
   ·show -1000000000000 ≤ psN _ _ N ∧ psN _ _ N ≤ 1000000000000
    omega
   ·show -200000000 ≤ hh ∧ hh ≤ 200000000
    omega
  ·simp at hg
theorem hyI_rng (a : Pa) (l : Ln) (M : Nat → Ms) (N : Nat) : 0 ≤ hyI a l M N ∧ hyI a l M N ≤ 64 := by
 unfold hyI
 split
 ·exact hyW_any _
 ·omega
theorem lnL_rng {a : Pa} {l : Ln} {last : Bool} {pn : Int → Bool} {M : Nat → Ms} {N : Nat} {L : List Gl} (hN : N ≤ 4096) (hM : ∀ i,i < N → MsOk (M i)) (hlx : 0 ≤ l.x ∧ l.x ≤ 4095) (hlw : 0 ≤ l.w ∧ l.w ≤ 4095) (hL : ∀ g ∈ L,GB g) : ∀ g ∈ lnL a l last pn M N L,GB g := by
 have h1 := toN_le M N
 have h2 := fwN_le (l.f == 0) M (toN M N)
 unfold lnL
 exact fiL_rng (by omega) hN (fun i hi => ptM_ok (loM_ok hi (hM i hi))) hlx hlw (hyI_rng _ _ _ _) hL
theorem plL_rng {a : Pa} {l : Ln} {last : Bool} {pn : Int → Bool} (he : plE a l = 0) : ∀ g ∈ plL a l last pn,GB g := by
 have hck : chkI a = 0 := by
  apply Classical.byContradiction
  intro h
  unfold plE at he
  rw [if_neg h] at he
  exact h he
 have hok : okL a l := by
  apply Classical.byContradiction
  intro h
  unfold plE at he
  rw [if_pos hck,if_neg h] at he
  cases he
 have hG := good_of hck
 have hn4 : num a.t ≤ 4096 := Nat.le_trans (num_le a.t) hG.size
 have ht : loI a l.t ≤ num a.t := lowN_le _ _ _
 unfold plL gyL
 split
 ·refine lnL_rng (by omega) (fun i hi => hG.msOk (by omega)) hok.2.2.2.1 hok.2.2.2.2 (fun g hg => ?_)
  have e : g = cpG a (msI a 0) l.x := by simpa using hg
  have hc := cwI_rng a
  have hx := hok.2.2.2.1
  rw [e]
  refine ⟨?_,?_⟩
  ·show -1000000000000 ≤ l.x - cwI a - 4 ∧ l.x - cwI a - 4 ≤ 1000000000000
   omega
  ·show -200000000 ≤ cwI a ∧ cwI a ≤ 200000000
   omega
 ·exact lnL_rng (by omega) (fun i hi => hG.msOk (by omega)) hok.2.2.2.1 hok.2.2.2.2 (fun g hg => by simp at hg)
theorem lnL_len (a : Pa) (l : Ln) (last : Bool) (pn : Int → Bool) (M : Nat → Ms) (N : Nat) (L : List Gl) : (lnL a l last pn M N L).length = L.length + N + (if l.y = true then 1 else 0) := by
 unfold lnL fiL
 rw [List.length_append,List.length_append,glS_len]
 split <;> rfl
theorem plL_len {a : Pa} {l : Ln} {last : Bool} {pn : Int → Bool} (h : num a.t ≤ 4096) : (plL a l last pn).length ≤ 4098 := by
 have ht : loI a l.t ≤ num a.t := lowN_le _ _ _
 unfold plL gyL
 split
 ·rw [lnL_len,List.length_singleton]; split <;> omega
 ·rw [lnL_len,List.length_nil]; split <;> omega
theorem plE_ok {a : Pa} {l : Ln} (he : plE a l = 0) : chkI a = 0 ∧ okL a l := by
 have hck : chkI a = 0 := by
  apply Classical.byContradiction
  intro h
  unfold plE at he
  rw [if_neg h] at he
  exact h he
 refine ⟨hck,?_⟩
 apply Classical.byContradiction
 intro h
 unfold plE at he
 rw [if_pos hck,if_neg h] at he
 cases he
theorem num_4096 {a : Pa} (hck : chkI a = 0) : num a.t ≤ 4096 := Nat.le_trans (num_le a.t) (good_of hck).size
end Go.Proofs.YtbdpghjegachaaaGreatDoor

namespace Go.Proofs.YtbdpghjegachaaaGreatDoor
open Go.RowKit Go.Shelf
set_option maxRecDepth 100000
set_option maxHeartbeats 1000000
attribute [local go_sem] Oper.semAt_some wide_fn wide_depth

def placeI (t : ByteArray) (a last : Int) : Int := if wrongI t = 0 then (if 0 ≤ a ∧ a ≤ last then 0 else 5) else wrongI t
theorem refusePlace_any (t : ByteArray) (a last : Int) (w : World) : Calls Tryz.prog 49 #[.string t,.int .i64 a,.int .i64 last] w fun e w' => e = .returned (.int .i64 (placeI t a last)) ∧ w' = w := by
 have hR := refuse_any t w
 rcases wrong_rng t with h | h | h
 ·have e0 : placeI t a last = (if 0 ≤ a ∧ a ≤ last then 0 else 5) := if_pos h
  rw [h] at hR
  by_cases h0 : 0 ≤ a
  ·by_cases h1 : a ≤ last
   ·rw [e0,if_pos ⟨h0,h1⟩]
    go_enter Tryz.func49,Tryz.ntmps49
    go_wp2_with (go_at_call 93; refine hR.mono ?_; rintro e w' ⟨rfl,hww⟩; subst w')
    go_ret
    exact ⟨rfl,rfl⟩
   ·rw [e0,if_neg (fun h => h1 h.2)]
    go_enter Tryz.func49,Tryz.ntmps49
    go_wp2_with (go_at_call 93; refine hR.mono ?_; rintro e w' ⟨rfl,hww⟩; subst w')
    go_ret
    exact ⟨rfl,rfl⟩
  ·rw [e0,if_neg (fun h => h0 h.1)]
   go_enter Tryz.func49,Tryz.ntmps49
   go_wp2_with (go_at_call 93; refine hR.mono ?_; rintro e w' ⟨rfl,hww⟩; subst w')
   go_ret
   exact ⟨rfl,rfl⟩
 all_goals
  have e0 : placeI t a last = wrongI t := if_neg (by rw [h]; decide)
  rw [e0,h]
  rw [h] at hR
  go_enter Tryz.func49,Tryz.ntmps49
  go_wp2_with (go_at_call 93; refine hR.mono ?_; rintro e w' ⟨rfl,hww⟩; subst w')
  go_ret
  exact ⟨rfl,rfl⟩

theorem steady_boxes {w₁ : World} {own : Nat → Prop} {B C : Nat} (hB : B < w₁.heap.size) (hC : C < w₁.heap.size) (o p : Nat → Obj) : Steady (fun i X W => Base w₁ own X W ∧ W.heap[B]? = some (o i) ∧ W.heap[C]? = some (p i)) :=
 fun _ _ _ _ _ hs ht hx => ⟨hs.1.step ht hx,(hs.1.keep ht hB).trans hs.2.1,(hs.1.keep ht hC).trans hs.2.2⟩

theorem results_cells2 {P : Program} {fn : Func} {p q : Tmp} {t u : TypeId} (h : fn.results = #[.cell p t,.cell q u]) (tmps : Array Value) (w : World) (g k : Nat) (x y : Value)
  (hp : tmps.getD p undef = .pointer (some ⟨g,0,none⟩)) (hq : tmps.getD q undef = .pointer (some ⟨k,0,none⟩)) (hA : (isAgg t).run P w = .ok false w) (hB : (isAgg u).run P w = .ok false w)
  (hx : w.cell? ⟨g,0,none⟩ = some x) (hy : w.cell? ⟨k,0,none⟩ = some y) : (results fn tmps).run P w = .ok (.tuple #[x,y]) w := by
 have hp' : tmps[p]?.getD undef = .pointer (some ⟨g,0,none⟩) := by simpa using hp
 have hq' : tmps[q]?.getD undef = .pointer (some ⟨k,0,none⟩) := by simpa using hq
 simp [results,h,hp',hq',asAddr,run_loadVar_one w t x g hA hx,run_loadVar_one w u y k hB hy]
theorem allocs4x (w : World) (a b c d : Obj) : (((((w.alloc a).alloc b).alloc c).alloc d).heap[w.heap.size]? = some a ∧ ((((w.alloc a).alloc b).alloc c).alloc d).heap[w.heap.size + 1]? = some b) ∧ ((((w.alloc a).alloc b).alloc c).alloc d).heap[w.heap.size + 1 + 1]? = some c ∧ ((((w.alloc a).alloc b).alloc c).alloc d).heap[w.heap.size + 1 + 1 + 1]? = some d := by
 refine ⟨⟨?_,?_⟩,?_,?_⟩ <;> (show ((((w.heap.push a).push b).push c).push d)[_]? = _; simp only [Array.getElem?_push,Array.size_push]; repeat (first | rw [if_pos trivial] | rw [if_pos (by omega)] | rw [if_neg (by omega)]))
theorem cnext_ok (t : ByteArray) (h : wrongI t = 0) (a i : Nat) (hi : i ≤ num t) (h1 : st t i ≤ a) (h2 : i < num t → a < st t (i + 1)) (ha : a ≤ t.size) (w : World) :
  Calls Tryz.prog 21 #[.string t,.int .i64 a] w fun e w' => e = .returned (.tuple #[.int .i64 (st t (i + 1) : Nat),.int .i64 0]) ∧ Below w.heap.size w w' := by
 have hsz := ok_size h
 have hnl := num_le t
 have hR : ∀ w,Calls Tryz.prog 49 #[.string t,.int .i64 a,.int .i64 (t.size : Int)] w fun e w' => e = .returned (.int .i64 0) ∧ w' = w := fun w => by
  have := refusePlace_any t a (t.size : Int) w
  rwa [show placeI t a (t.size : Int) = 0 by unfold placeI; rw [if_pos h,if_pos (by omega)]] at this
 clear h
 refine callsIn_wide (n := 0).1 ?_
 refine callsIn_of_wp_marks Tryz.func21 rfl trivial ?_ rfl
 simp only [Tryz.ntmps21,List.size_toArray,List.length_cons,List.length_nil,Nat.reduceAdd,Nat.reduceSub,Array.replicate_succ,Array.replicate_zero,List.push_toArray,List.append_toArray,List.nil_append,List.cons_append]
 gi_wp2_with (first | (gi_at_call 49; refine (callsIn_wide.2 (hR _)).mono ?_; rintro e w' ⟨rfl,hww⟩; subst w') | (gi_at_call 50; refine (callsIn_wide.2 (clusters_any _ _)).mono ?_; rintro e w' ⟨rfl,rfl⟩))
 obtain ⟨w1,hw1⟩ : ∃ w1,(((w.alloc (.cells #[.int .i64 a] 3)).alloc (.cells #[.int .i64 0] 3)).alloc (.cells #[.int .i64 0] 32)).alloc (.cells #[.string t] 9) = w1 := ⟨_,rfl⟩
 have hs1 : w1.heap.size = w.heap.size + 4 := by rw [← hw1]; simp
 have hT1 : Turns Noth w w1 := by rw [← hw1]; exact (((Turns.alloc _ _ _).trans (Turns.alloc _ _ _)).trans (Turns.alloc _ _ _)).trans (Turns.alloc _ _ _)
 obtain ⟨⟨hB0,hB1⟩,hB2,hB3⟩ := allocs4x w (.cells #[.int .i64 a] 3) (.cells #[.int .i64 0] 3) (.cells #[.int .i64 0] 32) (.cells #[.string t] 9)
 rw [hw1] at hB0 hB1 hB2 hB3
 have hRd : Read (w.heap.size + 1 + 1 + 1) t w1 := ⟨hB3⟩
 rw [hw1]
 refine wp_range (gf := 94) (lb := #[.pointer (some ⟨w.heap.size + 1 + 1 + 1,0,none⟩)]) rfl (enters_of Tryz.func94 (by kernel_rfl) rfl) (clusters1_gives (w.heap.size + 1 + 1 + 1) t hsz) (fun _ => rfl)
  (fun j X W => (Base w1 (fun k => k = w.heap.size + 1 ∨ k = w.heap.size + 1 + 1) X W ∧ W.heap[w.heap.size + 1]? = some (.cells #[.int .i64 0] 3) ∧ W.heap[w.heap.size + 1 + 1]? = some (.cells #[.int .i64 0] 32)) ∧ j ≤ i)
  (fun c j X W => (Base w1 (fun k => k = w.heap.size + 1 ∨ k = w.heap.size + 1 + 1) X W ∧ W.heap[w.heap.size + 1]? = some (.cells #[.int .i64 (st t (j + 1) : Nat)] 3) ∧ W.heap[w.heap.size + 1 + 1]? = some (.cells #[.int .i64 0] 32)) ∧ j = i ∧ c = .ret)
  (fun a' j X W => ((Base w1 (fun k => k = w.heap.size + 1 ∨ k = w.heap.size + 1 + 1) X W ∧ W.heap[w.heap.size + 1]? = some (.cells #[.int .i64 0] 3) ∧ W.heap[w.heap.size + 1 + 1]? = some (.cells #[.int .i64 0] 32)) ∧ j ≤ i) ∧
   ∃ B,¬ X B ∧ W.heap[B]? = some (.cells (clC t j).toArray 100) ∧
   a' = { tmps := #[.string t,.int .i64 a,undef,.pointer (some ⟨w.heap.size,0,none⟩),.pointer (some ⟨w.heap.size + 1,0,none⟩),.pointer (some ⟨w.heap.size + 1 + 1,0,none⟩),.int .i64 0,.pointer (some ⟨B,0,none⟩),.string t,.int .i64 a,.string t,.int .i64 t.size,.int .i64 0,.int .i64 0,.bool false,undef,.string t,.func (.func 94) #[] #[.pointer (some ⟨w.heap.size + 1 + 1 + 1,0,none⟩)],.agg (clC t j).toArray,undef,undef,undef,undef,undef,undef,undef,undef],defers := [] })
  ((steady_boxes (by omega) (by omega) _ _).and (Steady.pure _)) (fun c => (steady_boxes (by omega) (by omega) _ _).and (Steady.pure _)) (fun a' => ((steady_boxes (by omega) (by omega) _ _).and (Steady.pure _)).and (steady_round a' _ _)) ?hR ⟨⟨Base.start _ _,hB1,hB2⟩,by omega⟩ ?assign ?body ?done ?stop
 case hR =>
  rintro j X W ⟨⟨hb,_⟩,_⟩
  exact hRd.turns hb.turns (by omega)
 case assign =>
  rintro l j X W K hj ⟨⟨hb,hv,hu⟩,hji⟩ hK
  have hbs := hb.turns.size
  unfold encC
  gi_wp2
  exact hK _ _ (Keeps.alloc _ _ _) ⟨⟨⟨hb.alloc _,(Below.heap_alloc _ _ _ (by omega)).trans hv,(Below.heap_alloc _ _ _ (by omega)).trans hu⟩,hji⟩,W.heap.size,hb.fresh,World.alloc_heap_new _ _,rfl⟩
 case body =>
  rintro l j X a' W hj ⟨⟨⟨hb,hv,hu⟩,hji⟩,B,hB,hr,rfl⟩
  have hf0 : W.frozen? ⟨w.heap.size + 1,0,none⟩ = false := Lib.frozen_of_heap hv 0
  have hf1 : W.frozen? ⟨w.heap.size + 1 + 1,0,none⟩ = false := Lib.frozen_of_heap hu 0
  have hc0 : W.cell? ⟨w.heap.size + 1,0,none⟩ = some (.int .i64 0) := by rw [Lib.cell_of_heap hv]; rfl
  have hc1 : W.cell? ⟨w.heap.size + 1 + 1,0,none⟩ = some (.int .i64 0) := by rw [Lib.cell_of_heap hu]; rfl
  have hca : W.cell? ⟨w.heap.size,0,none⟩ = some (.int .i64 a) := by rw [Lib.cell_of_heap ((hb.turns.block _ (by omega) (by omega)).trans hB0)]; rfl
  have hr0 : W.cell? ⟨B,1,none⟩ = some (.int .i64 (st t (j + 1) : Nat)) := by rw [Lib.cell_of_heap hr]; rfl
  have hbs := hb.turns.size
  by_cases hjj : j = i
  ·have hst : (a : Int) < (st t (j + 1) : Nat) := by subst hjj; have := h2 hj; omega
   have hv' := Boxed.set (.int .i64 (st t (j + 1) : Nat)) (show Boxed W (w.heap.size + 1) 3 _ from hv)
   have hu' := Boxed.set (.int .i64 0) (show Boxed (W.setCell ⟨w.heap.size + 1,0,none⟩ (.int .i64 (st t (j + 1) : Nat))) (w.heap.size + 1 + 1) 32 _ from (Below.heap_setCell _ _ _ _ (by simp)).trans hu)
   have q1 : Hid (((W.setCell ⟨w.heap.size + 1,0,none⟩ (.int .i64 (st t (j + 1) : Nat))).setCell ⟨w.heap.size + 1 + 1,0,none⟩ (.int .i64 0)).heap[w.heap.size + 1]? = some (.cells #[.int .i64 (st t (j + 1) : Nat)] 3)) := (Below.heap_setCell _ _ _ _ (by simp)).trans hv'
   have q2 : Hid (((W.setCell ⟨w.heap.size + 1,0,none⟩ (.int .i64 (st t (j + 1) : Nat))).setCell ⟨w.heap.size + 1 + 1,0,none⟩ (.int .i64 0)).heap[w.heap.size + 1 + 1]? = some (.cells #[.int .i64 0] 32)) := hu'
   have hj2 : Hid (j = i) := hjj
   clear hv' hu' hjj
   gi_wp2
   refine ⟨(Keeps.set W (fun h => by have := (hb.young _ h).1; simp at this; omega) _).trans (Keeps.set _ (fun h => by have := (hb.young _ h).1; simp at this; omega) _),⟨(hb.set (.inl rfl) _).set (.inr rfl) _,?_,?_⟩,hj2.out,rfl⟩
   ·exact q1.out
   ·exact q2.out
  ·have hst : ¬ (a : Int) < (st t (j + 1) : Nat) := by have := st_mono t (show j + 1 ≤ i by omega); omega
   gi_wp2
   exact ⟨Keeps.refl _ _,⟨hb,hv,hu⟩,by omega⟩
 case done =>
  rintro D W hD ⟨⟨hb,hv,hu⟩,hji⟩ hK
  have he : Hid (t.size = st t (i + 1)) := by
   show _ = _
   have e : i = num t := by omega
   have := st_step t i; have := st_le t (i + 1); have e2 := num_end t; rw [← e] at e2; omega
  have hf0 : W.frozen? ⟨w.heap.size + 1,0,none⟩ = false := Lib.frozen_of_heap hv 0
  have hf1 : W.frozen? ⟨w.heap.size + 1 + 1,0,none⟩ = false := Lib.frozen_of_heap hu 0
  have hc0 : W.cell? ⟨w.heap.size + 1,0,none⟩ = some (.int .i64 0) := by rw [Lib.cell_of_heap hv]; rfl
  have hc1 : W.cell? ⟨w.heap.size + 1 + 1,0,none⟩ = some (.int .i64 0) := by rw [Lib.cell_of_heap hu]; rfl
  gi_wp2
  have hv' := Boxed.set (.int .i64 (t.size : Nat)) (show Boxed W (w.heap.size + 1) 3 _ from hv)
  have hu' := Boxed.set (.int .i64 0) (show Boxed (W.setCell ⟨w.heap.size + 1,0,none⟩ (.int .i64 (t.size : Nat))) (w.heap.size + 1 + 1) 32 _ from (Below.heap_setCell _ _ _ _ (by simp)).trans hu)
  have hK' := (Below.heap_setCell (W.setCell ⟨w.heap.size + 1,0,none⟩ (.int .i64 (t.size : Nat))) ⟨w.heap.size + 1 + 1,0,none⟩ (.int .i64 0) D (show D ≠ w.heap.size + 1 + 1 by omega)).trans ((Below.heap_setCell W ⟨w.heap.size + 1,0,none⟩ (.int .i64 (t.size : Nat)) D (show D ≠ w.heap.size + 1 by omega)).trans hK)
  refine ⟨by simp,.inl ⟨_,_,rfl,run_takeDeferred hK',?_⟩⟩
  refine ⟨_,results_cells2 rfl _ _ (w.heap.size + 1) (w.heap.size + 1 + 1) (.int .i64 (t.size : Nat)) (.int .i64 0) rfl rfl (agg_no Tryz.underlying3 rfl _) (agg_no Tryz.underlying32 rfl _) (by rw [Lib.cell_of_heap ((heap_put (by omega) _).trans ((Below.heap_setCell _ _ _ _ (by simp)).trans hv'))]; rfl) (by rw [Lib.cell_of_heap ((heap_put (by omega) _).trans hu')]; rfl),by rw [← he.out],below_end hT1 ((hb.set (.inl rfl) _).set (.inr rfl) _) (fun k h => by omega) _⟩
 case stop =>
  rintro D c j W hD hj ⟨⟨hb,hv,hu⟩,hjj,rfl⟩ hK
  have hc0 : W.cell? ⟨w.heap.size + 1,0,none⟩ = some (.int .i64 (st t (j + 1) : Nat)) := by rw [Lib.cell_of_heap hv]; rfl
  have hc1 : W.cell? ⟨w.heap.size + 1 + 1,0,none⟩ = some (.int .i64 0) := by rw [Lib.cell_of_heap hu]; rfl
  gi_wp2
  refine ⟨by simp,.inl ⟨_,_,rfl,run_takeDeferred hK,?_⟩⟩
  refine ⟨_,results_cells2 rfl _ _ (w.heap.size + 1) (w.heap.size + 1 + 1) (.int .i64 (st t (j + 1) : Nat)) (.int .i64 0) rfl rfl (agg_no Tryz.underlying3 rfl _) (agg_no Tryz.underlying32 rfl _) (by rw [Lib.cell_of_heap ((heap_put (by omega) _).trans hv)]; rfl) (by rw [Lib.cell_of_heap ((heap_put (by omega) _).trans hu)]; rfl),by rw [hjj],below_end hT1 hb (fun k h => by omega) _⟩


end Go.Proofs.YtbdpghjegachaaaGreatDoor

namespace Go.Proofs.YtbdpghjegachaaaGreatDoor
open Go.RowKit Go.Shelf

theorem shS_succ {M : Nat → Ms} {s : Nat} {rm : Int} {i : Nat} (h : (M (s + i)).k = 3) : shS M s rm (i + 1) = shS M s rm i + shI rm (M (s + i)) := by
 unfold shS
 rw [show bkL M s (i + 1) = bkL M s i ++ [i] by conv => lhs; unfold bkL
                                                rw [if_pos h],ssL_app]
theorem share_le {r S h A : Int} (hA : 0 < A) (hr : r ≤ A) (hh : 0 ≤ h) : (r * (S + h)) / A ≤ (r * S) / A + h := by
 have h1 : r * (S + h) ≤ r * S + h * A := by
  have := Int.mul_le_mul_of_nonneg_right hr hh
  rw [Int.mul_add,Int.mul_comm h A]
  omega
 have h2 := Int.ediv_le_ediv hA h1
 rw [Int.add_mul_ediv_right _ _ (by omega)] at h2
 exact h2
theorem spW_pos {M : Nat → Ms} {s n : Nat} {rm : Int} (hn : n ≤ 4096) (hM : ∀ i,i < n → 0 ≤ (M (s + i)).w ∧ (M (s + i)).w ≤ 4095) (hA : 0 < shS M s rm n) (hr : -(shS M s rm n) ≤ rm) {i : Nat} (hi : i < n) (h3 : (M (s + i)).k = 3) : 0 ≤ spW M s rm (shS M s rm n) i := by
 have hw := hM i hi
 have hS := (shS_rng hM hn rm (Nat.le_of_lt hi)).1
 have hh := shI_rng (rm := rm) hw
 unfold spW
 rw [shS_succ h3]
 generalize shS M s rm n = A at *
 by_cases hm : rm < 0
 ·have e1 : shI rm (M (s + i)) = (M (s + i)).w / 3 := if_pos hm
  obtain ⟨r,rfl⟩ : ∃ r,rm = -r := ⟨-rm,by omega⟩
  have e2 : ∀ X,0 ≤ X → Int.tdiv (-r * X) A = -((r * X) / A) := fun X hX => by
   rw [Int.neg_mul,Int.neg_tdiv,Int.tdiv_eq_ediv_of_nonneg (Int.mul_nonneg (by omega) hX)]
  rw [e2 _ (by omega),e2 _ hS]
  have := share_le (S := shS M s (-r) i) hA (show r ≤ A by omega) hh.1
  omega
 ·have e2 : ∀ X,0 ≤ X → Int.tdiv (rm * X) A = (rm * X) / A := fun X hX => Int.tdiv_eq_ediv_of_nonneg (Int.mul_nonneg (by omega) hX)
  rw [e2 _ (by omega),e2 _ hS]
  have h1 : rm * shS M s rm i ≤ rm * (shS M s rm i + shI rm (M (s + i))) := Int.mul_le_mul_of_nonneg_left (by omega) (by omega)
  have := Int.ediv_le_ediv hA h1
  omega
theorem spF_pos {M : Nat → Ms} {N s n : Nat} {rm : Int} {last : Bool} (hs : s + n ≤ N) (hN : N ≤ 4096) (hM : ∀ i,i < N → 0 ≤ (M i).w ∧ (M i).w ≤ 4095) {i : Nat} (hi : i < N) : 0 ≤ (spF last M s n rm i).w := by
 have hM' : ∀ i,i < n → 0 ≤ (M (s + i)).w ∧ (M (s + i)).w ≤ 4095 := fun i hi => hM _ (by omega)
 unfold spF
 split
 ·exact (hM i hi).1
 ·rename_i hc
  unfold spQ
  split
  ·rename_i hb
   obtain ⟨h1,h2⟩ := bkL_mem.1 hb.2
   have hbk : bkL M s n ≠ [] := fun e => hc (.inr (.inr (.inl e)))
   have hrm : ¬ rm < -(shS M s rm n) := fun e => hc (.inr (.inr (.inr e)))
   refine spW_pos (by omega) hM' ?_ (by omega) h1 h2
   by_cases h0 : rm < 0
   ·omega
   ·unfold shS
    rw [shS_even h0]
    have := List.length_pos_iff.2 hbk
    omega
  ·exact (hM i hi).1
structure RsOk (m r : Ms) : Prop where
 f : r.f = m.f
 t : r.t = m.t
 w : 0 ≤ r.w
 q : m.q ≤ r.q
theorem alM_ok {M : Nat → Ms} {N s n : Nat} {al x rm : Int} {last : Bool} (hs : s + n ≤ N) (hN : N ≤ 4096) (hM : ∀ i,i < N → MOk (M i)) (hrm : -50000000 ≤ rm ∧ rm ≤ 50000000) {i : Nat} (hi : i < N) : RsOk (M i) (alM al last (tabM M s x n) s n rm i) := by
 have e1 := tabM_rng (s := s) (n := n) (x := x) hM hi
 have hT : ∀ j,j < N → 0 ≤ (tabM M s x n j).w ∧ (tabM M s x n j).w ≤ 4095 := fun j hj => ⟨(tabM_rng (s := s) (n := n) (x := x) hM hj).2.2.2.2.1,(tabM_rng (s := s) (n := n) (x := x) hM hj).2.2.2.2.2⟩
 unfold alM
 split
 ·have e2 := spF_rng (last := last) (M := tabM M s x n) (rm := rm) hs hN hT hrm hi
  exact ⟨e2.2.1.trans e1.2.1,e2.2.2.1.trans e1.2.2.1,spF_pos hs hN hT hi,by rw [e2.1,e1.1]; exact Int.le_refl _⟩
 ·exact ⟨e1.2.1,e1.2.2.1,(hT i hi).1,by rw [e1.1]; exact Int.le_refl _⟩
theorem seM_ok {l : Ln} {pn : Int → Bool} {M : Nat → Ms} {N i : Nat} (h : MsOk (M i)) : (seM l pn M N i).f = (M i).f ∧ (seM l pn M N i).t = (M i).t ∧ (M i).q ≤ (seM l pn M N i).q := by
 have hk := loM_k (l.f == 0) M N i
 have hq := h.ok.q1
 refine ⟨hk.2.1,hk.2.2.2.1,?_⟩
 show (M i).q ≤ if i = 0 ∨ pn (loM (l.f == 0) M N i).f = true then 0 else (loM (l.f == 0) M N i).q
 rw [hk.2.2.1]
 split <;> omega
theorem lnL_is (a : Pa) (l : Ln) (last : Bool) (pn : Int → Bool) {M : Nat → Ms} {N : Nat} (hN : N ≤ 4096) (hM : ∀ i,i < N → MsOk (M i)) (hlx : 0 ≤ l.x ∧ l.x ≤ 4095) (hlw : 0 ≤ l.w ∧ l.w ≤ 4095) : ∃ (R : Nat → Ms) (x : Int),(∀ L0,lnL a l last pn M N L0 = L0 ++ glS R x N ++ (if l.y = true then [(⟨l.t,l.t,psN R x N,hyI a l (seM l pn M N) N⟩ : Gl)] else [])) ∧ ∀ i,i < N → RsOk (M i) (R i) := by
 have h1 := toN_le M N
 have h2 := fwN_le (l.f == 0) M (toN M N)
 have hO : ∀ i,i < N → MOk (seM l pn M N i) := fun i hi => ptM_ok (loM_ok hi (hM i hi))
 have hat := atN_rng hO (s := fwN (l.f == 0) M (toN M N)) hlx.1 (toN M N - fwN (l.f == 0) M (toN M N)) (by omega)
 have hh := hyI_rng a l (seM l pn M N) N
 refine ⟨_,_,fun L0 => rfl,fun i hi => ?_⟩
 have h3 := seM_ok (l := l) (pn := pn) (N := N) (hM i hi)
 have h4 := alM_ok (al := a.p.p2) (x := l.x) (last := last) (rm := l.w - (atQ (seM l pn M N) (fwN (l.f == 0) M (toN M N)) l.x (toN M N - fwN (l.f == 0) M (toN M N)) + hyI a l (seM l pn M N) N - l.x)) (show fwN (l.f == 0) M (toN M N) + (toN M N - fwN (l.f == 0) M (toN M N)) ≤ N by omega) hN hO (by omega) hi
 exact ⟨h4.f.trans h3.1,h4.t.trans h3.2.1,h4.w,Int.le_trans h3.2.2 h4.q⟩
theorem glS_get (R : Nat → Ms) (x : Int) : ∀ {k j : Nat},j < k → (glS R x k)[j]? = some ⟨(R j).f,(R j).t,psN R x j + (R j).q,(R j).w⟩
 | 0,j,h => by omega
 | k + 1, j, h => by
  unfold glS
  by_cases e : j = k
  ·subst e
   rw [List.getElem?_append_right (by rw [glS_len]; omega),glS_len,Nat.sub_self]
   rfl
  ·rw [List.getElem?_append_left (by rw [glS_len]; omega)]
   exact glS_get R x (by omega)
theorem mid_get (R : Nat → Ms) (x : Int) (L0 H : List Gl) {N j : Nat} (h : j < N) : (L0 ++ glS R x N ++ H)[L0.length + j]? = some ⟨(R j).f,(R j).t,psN R x j + (R j).q,(R j).w⟩ := by
 rw [List.getElem?_append_left (by rw [List.length_append,glS_len]; omega),List.getElem?_append_right (by omega),show L0.length + j - L0.length = j by omega]
 exact glS_get R x h
theorem end_get (R : Nat → Ms) (x : Int) (L0 H : List Gl) (N : Nat) : (L0 ++ glS R x N ++ H)[L0.length + N]? = H[0]? := by
 rw [List.getElem?_append_right (by rw [List.length_append,glS_len]; omega),List.length_append,glS_len,Nat.sub_self]
structure OrdF (a : Pa) (l : Ln) (L : List Gl) (f0 n : Nat) (d : Int) : Prop where
 len : L.length = n + (if l.y = true then 1 else 0)
 le : f0 + n ≤ num a.t
 s0 : (st a.t f0 : Int) = l.f
 s1 : (st a.t (f0 + n) : Int) = l.t
 ff : ∀ j (_ : j < L.length),j < n → L[j].f = (st a.t (f0 + j) : Nat) ∧ L[j].t = (st a.t (f0 + j + 1) : Nat)
 hy : ∀ j (_ : j < L.length),j = n → L[j].f = l.t ∧ L[j].t = l.t
 ap : ∀ (h : 1 < L.length),0 < d → l.f = 0 → (L[0]'(by omega)).f = 0 → (L[0]'(by omega)).x = l.x - d ∧ (L[0]'(by omega)).w = d - 4
 gp : ∀ j (_ : j + 1 < L.length),¬ (j = 0 ∧ 0 < d ∧ l.f = 0) → 0 ≤ L[j + 1].w ∧ L[j].x + L[j].w + (if j + 1 < n then (msI a (f0 + j + 1)).q else 0) ≤ L[j + 1].x
theorem bd_st {a : Pa} {x : Int} (h : bdQ a x = true) : (st a.t (loI a x) : Int) = x := by
 unfold bdQ at h
 rcases Bool.or_eq_true _ _ ▸ h with h | h
 ·unfold fndB at h
  rw [Bool.and_eq_true,beq_iff_eq] at h
  exact h.2
 ·have e : x = a.t.size := by simpa using h
  have : loI a x = num a.t := lowN_is (Nat.le_refl _) (fun j hj => by have := num_lt hj; show ((st a.t j : Nat) : Int) < x; omega) (fun j h1 h2 => by omega)
  rw [this,num_end,e]
theorem at_some {L : List Gl} {j : Nat} {g : Gl} (h : j < L.length) (e : L[j]? = some g) : L[j] = g := by
 rw [List.getElem?_eq_getElem h] at e
 exact Option.some.inj e
theorem ord_ok {a : Pa} {l : Ln} {last : Bool} {pn : Int → Bool} (he : plE a l = 0) : OrdF a l (plL a l last pn) (loI a l.f) (loI a l.t - loI a l.f) (drV a) := by
 obtain ⟨hck,hb1,hb2,hle,hx,hw⟩ := plE_ok he
 have hG := good_of hck
 have hn4 := num_4096 hck
 have ht : loI a l.t ≤ num a.t := lowN_le _ _ _
 have s0 := bd_st hb1
 have s1 := bd_st hb2
 generalize hf0 : loI a l.f = f0 at *
 generalize ht0 : loI a l.t = t0 at *
 have hdr : 0 < drV a → drV a = cwI a + 4 ∧ capB a (num a.t) (msI a 0).k = true := fun h => by
  unfold drV at h ⊢
  by_cases e : chkI a = 0 ∧ capB a (num a.t) (msI a 0).k = true
  ·rw [if_pos e]; exact ⟨rfl,e.2⟩
  ·rw [if_neg e] at h; omega
 have hfz : l.f = 0 → f0 = 0 := fun e => by
  have h0 : (st a.t f0 : Nat) = st a.t 0 := by show st a.t f0 = 0; omega
  exact st_inj (by omega) (by omega) h0
 by_cases hc : cpB a (num a.t) f0 t0 (msI a 0).k = true
 ·have hc' := hc
  unfold cpB at hc'
  rw [Bool.and_eq_true,Bool.and_eq_true,decide_eq_true_eq,decide_eq_true_eq] at hc'
  obtain ⟨rfl,htp,hcap⟩ := hc'
  obtain ⟨R,x,hL,hR⟩ := lnL_is a l last pn (M := fun i => msI a (1 + i)) (N := t0 - 1) (by omega) (fun i hi => hG.msOk (by omega)) hx hw
  have hdv : drV a = cwI a + 4 := by unfold drV; rw [if_pos ⟨hck,hcap⟩]
  have hpl : plL a l last pn = [cpG a (msI a 0) l.x] ++ glS R x (t0 - 1) ++ (if l.y = true then [(⟨l.t,l.t,psN R x (t0 - 1),hyI a l (seM l pn (fun i => msI a (1 + i)) (t0 - 1)) (t0 - 1)⟩ : Gl)] else []) := by
   unfold plL gyL
   rw [hf0,ht0,if_pos hc]
   exact hL _
  have hcw := cwI_rng a
  have hlf : l.f = 0 := by have : st a.t 0 = 0 := rfl; omega
  have hlen : (plL a l last pn).length = t0 + (if l.y = true then 1 else 0) := by
   rw [hpl,List.length_append,List.length_append,glS_len,List.length_singleton]
   split <;> simp <;> omega
  have g0 : (plL a l last pn)[0]? = some (cpG a (msI a 0) l.x) := by rw [hpl]; rfl
  have gm : ∀ j,j < t0 - 1 → (plL a l last pn)[1 + j]? = some ⟨(R j).f,(R j).t,psN R x j + (R j).q,(R j).w⟩ := fun j hj => by rw [hpl]; exact mid_get R x [_] _ hj
  have ge : l.y = true → (plL a l last pn)[1 + (t0 - 1)]? = some ⟨l.t,l.t,psN R x (t0 - 1),hyI a l (seM l pn (fun i => msI a (1 + i)) (t0 - 1)) (t0 - 1)⟩ := fun hy => by
   rw [hpl]
   refine (end_get R x [_] _ _).trans ?_
   rw [if_pos hy]; rfl
  have hyy : ∀ j,j < (plL a l last pn).length → t0 ≤ j → l.y = true ∧ j = 1 + (t0 - 1) := fun j h1 h2 => by
   rw [hlen] at h1
   split at h1
   ·rename_i hy; exact ⟨hy,by omega⟩
   ·omega
  refine ⟨by rw [hlen]; rfl,by omega,s0,by rw [show 0 + (t0 - 0) = t0 by omega]; exact s1,?_,?_,?_,?_⟩
  ·intro j h hj
   by_cases e : j = 0
   ·subst e
    rw [at_some h g0]
    exact ⟨rfl,rfl⟩
   ·obtain ⟨i,rfl⟩ : ∃ i,j = 1 + i := ⟨j - 1,by omega⟩
    have hr := hR i (by omega)
    rw [at_some h (gm i (by omega))]
    refine ⟨hr.f.trans ?_,hr.t.trans ?_⟩
    ·show ((st a.t (1 + i) : Nat) : Int) = _; rw [Nat.zero_add]
    ·show ((st a.t (1 + i + 1) : Nat) : Int) = _; rw [Nat.zero_add]
  ·intro j h hj
   obtain ⟨hy,e⟩ := hyy j h (by omega)
   subst e
   rw [at_some h (ge hy)]
   exact ⟨rfl,rfl⟩
  ·intro h _ _ _
   rw [at_some (by omega) g0,hdv]
   exact ⟨by show l.x - cwI a - 4 = _; omega,by show cwI a = _; omega⟩
  ·intro j h hn
   have hj0 : j ≠ 0 := fun e => hn ⟨e,by omega,hlf⟩
   obtain ⟨i,rfl⟩ : ∃ i,j = 1 + i := ⟨j - 1,by omega⟩
   have hi : i < t0 - 1 := by rw [hlen] at h; split at h <;> omega
   rw [at_some (j := 1 + i) (by omega) (gm i hi)]
   by_cases hl : i + 1 < t0 - 1
   ·have hr := hR (i + 1) hl
    rw [at_some (j := 1 + i + 1) h (by rw [show 1 + i + 1 = 1 + (i + 1) by omega]; exact gm (i + 1) hl),if_pos (by omega)]
    refine ⟨hr.w,?_⟩
    have hq : (msI a (1 + (i + 1))).q ≤ (R (i + 1)).q := hr.q
    rw [show 0 + (1 + i) + 1 = 1 + (i + 1) by omega]
    show psN R x i + (R i).q + (R i).w + _ ≤ psN R x i + (R i).q + (R i).w + (R (i + 1)).q
    omega
   ·obtain ⟨hy,e⟩ := hyy (1 + i + 1) h (by omega)
    rw [at_some (j := 1 + i + 1) h (by rw [e]; exact ge hy),if_neg (by omega)]
    refine ⟨(hyI_rng a l _ _).1,?_⟩
    show psN R x i + (R i).q + (R i).w + 0 ≤ psN R x (t0 - 1)
    rw [show t0 - 1 = i + 1 by omega]
    show _ ≤ psN R x i + (R i).q + (R i).w
    omega
 ·obtain ⟨R,x,hL,hR⟩ := lnL_is a l last pn (M := fun i => msI a (f0 + i)) (N := t0 - f0) (by omega) (fun i hi => hG.msOk (by omega)) hx hw
  have hpl : plL a l last pn = [] ++ glS R x (t0 - f0) ++ (if l.y = true then [(⟨l.t,l.t,psN R x (t0 - f0),hyI a l (seM l pn (fun i => msI a (f0 + i)) (t0 - f0)) (t0 - f0)⟩ : Gl)] else []) := by
   unfold plL gyL
   rw [hf0,ht0,if_neg hc]
   exact hL _
  have hlen : (plL a l last pn).length = (t0 - f0) + (if l.y = true then 1 else 0) := by
   rw [hpl,List.length_append,List.length_append,glS_len,List.length_nil]
   split <;> simp
  have gm : ∀ j,j < t0 - f0 → (plL a l last pn)[j]? = some ⟨(R j).f,(R j).t,psN R x j + (R j).q,(R j).w⟩ := fun j hj => by
   have := mid_get R x [] (if l.y = true then [(⟨l.t,l.t,psN R x (t0 - f0),hyI a l (seM l pn (fun i => msI a (f0 + i)) (t0 - f0)) (t0 - f0)⟩ : Gl)] else []) hj
   rw [hpl,← this,List.length_nil,Nat.zero_add]
  have ge : l.y = true → (plL a l last pn)[t0 - f0]? = some ⟨l.t,l.t,psN R x (t0 - f0),hyI a l (seM l pn (fun i => msI a (f0 + i)) (t0 - f0)) (t0 - f0)⟩ := fun hy => by
   have := end_get R x [] (if l.y = true then [(⟨l.t,l.t,psN R x (t0 - f0),hyI a l (seM l pn (fun i => msI a (f0 + i)) (t0 - f0)) (t0 - f0)⟩ : Gl)] else []) (t0 - f0)
   rw [List.length_nil,Nat.zero_add,← hpl,if_pos hy] at this
   exact this
  have hyy : ∀ j,j < (plL a l last pn).length → t0 - f0 ≤ j → l.y = true ∧ j = t0 - f0 := fun j h1 h2 => by
   rw [hlen] at h1
   split at h1
   ·rename_i hy; exact ⟨hy,by omega⟩
   ·omega
  have hnd : 1 < (plL a l last pn).length → 0 < drV a → l.f = 0 → False := fun h1 hd hf => by
   have h0 := hfz hf
   have hcap := (hdr hd).2
   have ht1 : t0 = 0 := by
    apply Classical.byContradiction
    intro hne
    apply hc
    unfold cpB
    rw [hcap,decide_eq_true h0,decide_eq_true (show 0 < t0 by omega)]
    rfl
   rw [hlen] at h1
   split at h1 <;> omega
  refine ⟨hlen,by omega,s0,by rw [show f0 + (t0 - f0) = t0 by omega]; exact s1,?_,?_,?_,?_⟩
  ·intro j h hj
   have hr := hR j hj
   rw [at_some h (gm j hj)]
   exact ⟨hr.f,hr.t⟩
  ·intro j h hj
   obtain ⟨hy,e⟩ := hyy j h (by omega)
   subst hj
   rw [at_some h (ge hy)]
   exact ⟨rfl,rfl⟩
  ·intro h hd hf _
   exact (hnd h hd hf).elim
  ·intro j h _
   have hi : j < t0 - f0 := by rw [hlen] at h; split at h <;> omega
   rw [at_some (j := j) (by omega) (gm j hi)]
   by_cases hl : j + 1 < t0 - f0
   ·have hr := hR (j + 1) hl
    rw [at_some (j := j + 1) h (gm (j + 1) hl),if_pos hl]
    refine ⟨hr.w,?_⟩
    have hq : (msI a (f0 + (j + 1))).q ≤ (R (j + 1)).q := hr.q
    rw [show f0 + j + 1 = f0 + (j + 1) by omega]
    show psN R x j + (R j).q + (R j).w + _ ≤ psN R x j + (R j).q + (R j).w + (R (j + 1)).q
    omega
   ·obtain ⟨hy,e⟩ := hyy (j + 1) h (by omega)
    rw [at_some (j := j + 1) h (by rw [e]; exact ge hy),if_neg hl]
    refine ⟨(hyI_rng a l _ _).1,?_⟩
    show psN R x j + (R j).q + (R j).w + 0 ≤ psN R x (t0 - f0)
    rw [show t0 - f0 = j + 1 by omega]
    show _ ≤ psN R x j + (R j).q + (R j).w
    omega
end Go.Proofs.YtbdpghjegachaaaGreatDoor
