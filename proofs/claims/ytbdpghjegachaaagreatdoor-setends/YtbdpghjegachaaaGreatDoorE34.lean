/-
  What is proved here: bounds of a line's glyphs (no program is named).
  What is proved here: where a line's glyphs end, as End of set tells it.
  What is proved here: how the glyphs of a line stand to one another (no program is named).
  What is proved here: where a line ends under each alignment, held against its natural end.
  What is proved here: how the bytes of a line stand to its masses: tabs, and blanks that something is behind.
-/
import Derived.Test.YtbdpghjegachaaaGreatDoorE33
namespace Go.Proofs.YtbdpghjegachaaaGreatDoor
open Go.RowKit Go.Shelf

def GB (g : Gl) : Prop := (-1000000000000 ≤ g.x ∧ g.x ≤ 1000000000000) ∧ -200000000 ≤ g.w ∧ g.w ≤ 200000000
theorem glS_rng {M : Nat → Ms} {N : Nat} {x : Int} (hN : N ≤ 4096) (hx : -1000000000 ≤ x ∧ x ≤ 1000000000) (hM : ∀ i,i < N → (-64 ≤ (M i).q ∧ (M i).q ≤ 0) ∧ -200000000 ≤ (M i).w ∧ (M i).w ≤ 200000000) : ∀ k,k ≤ N → ∀ g ∈ glS M x k,GB g
 | 0,_,g,hg => by simp [glS] at hg
 | k + 1, hk, g, hg => by
  unfold glS at hg
  rcases List.mem_append.1 hg with hg | hg
  ·exact glS_rng hN hx hM k (by omega) g hg
  ·have e : g = ⟨(M k).f,(M k).t,psN M x k + (M k).q,(M k).w⟩ := by simpa using hg
   have h1 := psN_rng hx hM k (by omega)
   have h2 := hM k (by omega)
   subst e
   refine ⟨?_,h2.2⟩
   show -1000000000000 ≤ psN M x k + (M k).q ∧ psN M x k + (M k).q ≤ 1000000000000
   omega
theorem alM_rng {M : Nat → Ms} {N s n : Nat} {al x rm : Int} {last : Bool} (hs : s + n ≤ N) (hN : N ≤ 4096) (hM : ∀ i,i < N → MOk (M i)) (hrm : -50000000 ≤ rm ∧ rm ≤ 50000000) : ∀ i,i < N → (-64 ≤ (alM al last (tabM M s x n) s n rm i).q ∧ (alM al last (tabM M s x n) s n rm i).q ≤ 0) ∧ -200000000 ≤ (alM al last (tabM M s x n) s n rm i).w ∧ (alM al last (tabM M s x n) s n rm i).w ≤ 200000000 := fun i hi => by
 have e1 := tabM_rng (s := s) (n := n) (x := x) hM hi
 have hm := hM i hi
 have := hm.q0
 have := hm.q1
 unfold alM
 split
 ·have e2 := spF_rng (last := last) (M := tabM M s x n) (rm := rm) hs hN (fun j hj => ⟨(tabM_rng (s := s) (n := n) (x := x) hM hj).2.2.2.2.1,(tabM_rng (s := s) (n := n) (x := x) hM hj).2.2.2.2.2⟩) hrm hi
  omega
 ·omega
theorem mvI_rng {al rm : Int} (h : -50000000 ≤ rm ∧ rm ≤ 50000000) : 0 ≤ mvI al rm ∧ mvI al rm ≤ 50000000 := by
 have h1 : 0 ≤ posI rm ∧ posI rm ≤ 50000000 := by unfold posI; split <;> omega
 unfold mvI
 split
 ·exact h1
 ·split <;> omega
theorem fiL_rng {a : Pa} {l : Ln} {last : Bool} {M : Nat → Ms} {s n N : Nat} {hh : Int} {L : List Gl} (hs : s + n ≤ N) (hN : N ≤ 4096) (hM : ∀ i,i < N → MOk (M i)) (hlx : 0 ≤ l.x ∧ l.x ≤ 4095) (hlw : 0 ≤ l.w ∧ l.w ≤ 4095) (hhh : 0 ≤ hh ∧ hh ≤ 64) (hL : ∀ g ∈ L,GB g) : ∀ g ∈ fiL a l last M s n N hh L,GB g := fun g hg => by
 have hat := atN_rng hM (s := s) hlx.1 n hs
 have hrm : -50000000 ≤ (l.w - (atQ M s l.x n + hh - l.x)) ∧ (l.w - (atQ M s l.x n + hh - l.x)) ≤ 50000000 := by omega
 have hmv := mvI_rng (al := a.p.p2) hrm
 have h4 := alM_rng (al := a.p.p2) (x := l.x) (last := last) hs hN hM hrm
 have hx : -1000000000 ≤ l.x + mvI a.p.p2 (l.w - (atQ M s l.x n + hh - l.x)) ∧ l.x + mvI a.p.p2 (l.w - (atQ M s l.x n + hh - l.x)) ≤ 1000000000 := by omega
 unfold fiL at hg
 rcases List.mem_append.1 hg with hg | hg
 ·rcases List.mem_append.1 hg with hg | hg
  ·exact hL g hg
  ·exact glS_rng hN hx h4 N (Nat.le_refl _) g hg
 ·split at hg
  ·have e : g = ⟨l.t,l.t,psN (alM a.p.p2 last (tabM M s l.x n) s n (l.w - (atQ M s l.x n + hh - l.x))) (l.x + mvI a.p.p2 (l.w - (atQ M s l.x n + hh - l.x))) N,hh⟩ := by simpa using hg
   have h1 := psN_rng hx h4 N (Nat.le_refl _)
   rw [e]
   refine ⟨?_,?_⟩
   ·show -1000000000000 ≤ psN _ _ N ∧ psN _ _ N ≤ 1000000000000
    omega
   ·show -200000000 ≤ hh ∧ hh ≤ 200000000
    omega
  ·simp at hg
theorem hyI_rng (a : Pa) (l : Ln) (M : Nat → Ms) (N : Nat) : 0 ≤ hyI a l M N ∧ hyI a l M N ≤ 64 := by
 unfold hyI
 split
 ·exact hyW_any _
 ·omega
theorem lnL_rng {a : Pa} {l : Ln} {last : Bool} {pn : Int → Bool} {M : Nat → Ms} {N : Nat} {L : List Gl} (hN : N ≤ 4096) (hM : ∀ i,i < N → MsOk (M i)) (hlx : 0 ≤ l.x ∧ l.x ≤ 4095) (hlw : 0 ≤ l.w ∧ l.w ≤ 4095) (hL : ∀ g ∈ L,GB g) : ∀ g ∈ lnL a l last pn M N L,GB g := by
 have h1 := toN_le M N
 have h2 := fwN_le (l.f == 0) M (toN M N)
 unfold lnL
 exact fiL_rng (by omega) hN (fun i hi => ptM_ok (loM_ok hi (hM i hi))) hlx hlw (hyI_rng _ _ _ _) hL
theorem plL_rng {a : Pa} {l : Ln} {last : Bool} {pn : Int → Bool} (he : plE a l = 0) : ∀ g ∈ plL a l last pn,GB g := by
 have hck : chkI a = 0 := by
  apply Classical.byContradiction
  intro h
  unfold plE at he
  rw [if_neg h] at he
  exact h he
 have hok : okL a l := by
  apply Classical.byContradiction
  intro h
  unfold plE at he
  rw [if_pos hck,if_neg h] at he
  cases he
 have hG := good_of hck
 have hn4 : num a.t ≤ 4096 := Nat.le_trans (num_le a.t) hG.size
 have ht : loI a l.t ≤ num a.t := lowN_le _ _ _
 unfold plL gyL
 split
 ·refine lnL_rng (by omega) (fun i hi => hG.msOk (by omega)) hok.2.2.2.1 hok.2.2.2.2 (fun g hg => ?_)
  have e : g = cpG a (msI a 0) l.x := by simpa using hg
  have hc := cwI_rng a
  have hx := hok.2.2.2.1
  rw [e]
  refine ⟨?_,?_⟩
  ·show -1000000000000 ≤ l.x - cwI a - 4 ∧ l.x - cwI a - 4 ≤ 1000000000000
   omega
  ·show -200000000 ≤ cwI a ∧ cwI a ≤ 200000000
   omega
 ·exact lnL_rng (by omega) (fun i hi => hG.msOk (by omega)) hok.2.2.2.1 hok.2.2.2.2 (fun g hg => by simp at hg)
theorem lnL_len (a : Pa) (l : Ln) (last : Bool) (pn : Int → Bool) (M : Nat → Ms) (N : Nat) (L : List Gl) : (lnL a l last pn M N L).length = L.length + N + (if l.y = true then 1 else 0) := by
 unfold lnL fiL
 rw [List.length_append,List.length_append,glS_len]
 split <;> rfl
theorem plL_len {a : Pa} {l : Ln} {last : Bool} {pn : Int → Bool} (h : num a.t ≤ 4096) : (plL a l last pn).length ≤ 4098 := by
 have ht : loI a l.t ≤ num a.t := lowN_le _ _ _
 unfold plL gyL
 split
 ·rw [lnL_len,List.length_singleton]; split <;> omega
 ·rw [lnL_len,List.length_nil]; split <;> omega
theorem plE_ok {a : Pa} {l : Ln} (he : plE a l = 0) : chkI a = 0 ∧ okL a l := by
 have hck : chkI a = 0 := by
  apply Classical.byContradiction
  intro h
  unfold plE at he
  rw [if_neg h] at he
  exact h he
 refine ⟨hck,?_⟩
 apply Classical.byContradiction
 intro h
 unfold plE at he
 rw [if_pos hck,if_neg h] at he
 cases he
theorem num_4096 {a : Pa} (hck : chkI a = 0) : num a.t ≤ 4096 := Nat.le_trans (num_le a.t) (good_of hck).size
end Go.Proofs.YtbdpghjegachaaaGreatDoor

namespace Go.Proofs.YtbdpghjegachaaaGreatDoor
open Go.RowKit Go.Shelf
set_option maxRecDepth 100000
set_option maxHeartbeats 2000000

def enV (a : Pa) (l : Ln) (last : Bool) : Int := if plE a l = 0 then enI (plL a l last (pnB a)) l.x else 0
theorem send_any (a : Pa) (l : Ln) (last : Bool) (w : World) (hA : PaAt w a) (htb : Hy.Tab w) : Calls Tryz.prog 10 #[paV a,.agg (lnC l),.bool last] w fun e w' => e = .returned (.tuple #[.int .i64 (enV a l last),.int .i64 (plE a l)]) ∧ Below w.heap.size w w' := by
 have hB1 := (Below.refl w.heap.size w).alloc (Nat.le_refl _) (Obj.cells (paC a) 27)
 have hB2 := hB1.alloc hB1.size (Obj.cells (lnC l) 29)
 have s1 : (w.alloc (.cells (paC a) 27)).heap.size = w.heap.size + 1 := World.size_alloc _ _
 have hp0 : PB ((w.alloc (.cells (paC a) 27)).alloc (.cells (lnC l) 29)) w.heap.size a := ⟨(Below.heap_alloc _ _ _ (by omega)).trans (World.alloc_heap_new w _)⟩
 have hl0 : LB ((w.alloc (.cells (paC a) 27)).alloc (.cells (lnC l) 29)) (w.heap.size + 1) l := ⟨by have := World.alloc_heap_new (w.alloc (.cells (paC a) 27)) (.cells (lnC l) 29); rw [s1] at this; exact this⟩
 have hpl := place_all a l last _ (hA.below hB2 (Nat.le_refl _)) (htb.below hB2)
 have hrg : Hid (plE a l = 0 → ∀ g ∈ plL a l last (pnB a),GB g) := fun h => plL_rng h
 have hev : Hid (enV a l last = if plE a l = 0 then enI (plL a l last (pnB a)) l.x else 0) := rfl
 have hln4 : Hid (plE a l = 0 → (plL a l last (pnB a)).length ≤ 4098) := fun h => plL_len (num_4096 (plE_ok h).1)
 unfold PlEnd at hpl
 have hlC : lnC l = #[.int .i64 l.f,.int .i64 l.t,.int .i64 l.x,.int .i64 l.w,.int .i64 l.n,.bool l.y,.int .i64 l.g] := rfl
 unfold paV at hpl ⊢
 rw [hlC] at hpl hp0 hl0 hB2 ⊢
 have hlr := hl0.row
 rw [hlC] at hlr
 clear hlC
 generalize hw2 : (w.alloc (.cells (paC a) 27)).alloc (.cells #[.int .i64 l.f,.int .i64 l.t,.int .i64 l.x,.int .i64 l.w,.int .i64 l.n,.bool l.y,.int .i64 l.g] 29) = w2 at *
 generalize plL a l last (pnB a) = L at *
 generalize enV a l last = ev at *
 clear hA htb hB1 s1
 by_cases he : plE a l = 0
 ·have hgb := hrg.out he
  have hev2 : Hid (ev = enI L l.x) := by have := hev.out; rw [if_pos he] at this; exact this
  rw [he] at hpl ⊢
  have hn8 := hln4.out he
  clear hev hrg he hln4
  go_enter Tryz.func10,Tryz.ntmps10
  go_wp2_with (first | (refine wpList_load_row rfl 27 _ rfl w.heap.size rfl 27 _ (0,0) _ hp0.row Tryz.underlying27 rfl (info34 a) ?_) | (refine wpList_load_row rfl 29 _ rfl (w.heap.size + 1) rfl 29 _ (0,0) _ hlr Tryz.underlying29 rfl (by kernel_rfl) ?_))
  refine hpl.mono ?_
  rintro e W ⟨⟨v,rfl,hv⟩,hbW⟩
  obtain ⟨base,hbs,hrow⟩ : ∃ base,w2.heap.size ≤ base ∧ W.ownsRow base 41 4 v L.length (L.flatMap glL) := by
   rcases hv with ⟨h,_⟩ | ⟨_,h⟩
   ·exact absurd rfl h
   ·exact h
  have hrec := rec_of_row glL_len rfl hrow
  obtain ⟨va,vc,rfl,hvl⟩ := hrec.ex
  have hvc := hrec.le _ _ _ rfl
  have hBW := hB2.trans (hbW.mono hB2.size)
  have c2 := (show LB W (w.heap.size + 1) l from ⟨(hbW.block _ hl0.lt).trans hl0.row⟩).c2
  clear hv hrow hrec hpl hp0 hl0 hlr hw2 hbW hbs
  by_cases hl : L = []
  ·subst hl
   have hev3 : Hid (ev = l.x) := hev2.out
   clear hev2
   go_wp2_with fail
   go_ret2
   exact ⟨by rw [hev3.out]; rfl,hBW⟩
  ·have hpos : 0 < L.length := List.length_pos_iff.2 hl
   rcases hvl with hvl | ⟨b,o,rfl,hbb,hc⟩
   ·exact absurd hvl hl
   ·obtain ⟨k,hk⟩ : ∃ k,L.length = k + 1 := ⟨L.length - 1,by omega⟩
    have hkl : k < L.length := by omega
    have n0 := hc k hkl 0 _ rfl
    have n1 := hc k hkl 1 _ rfl
    have n2 := hc k hkl 2 _ rfl
    have n3 := hc k hkl 3 _ rfl
    rw [Nat.add_zero] at n0
    have hG := hgb _ (List.getElem_mem hkl)
    have hen : enI L l.x = L[k].x + L[k].w := by
     unfold enI
     rw [List.getLast?_eq_getElem?,show L.length - 1 = k by omega,List.getElem?_eq_getElem hkl]
    have hev3 : Hid (ev = L[k].x + L[k].w) := hev2.out.trans hen
    have hki : ((L.length : Nat) : Int) - 1 = (k : Nat) := by omega
    have hkL : (k : Int) < (L.length : Nat) := by omega
    have hkw : wrap64 ((k : Nat) : Int) = (k : Nat) := by unfold wrap64; omega
    have hne : (((L.length : Nat) : Int) == 0) = false := by simpa using (by omega : ¬ ((L.length : Nat) : Int) = 0)
    have hl1 : (1 : Int) ≤ (L.length : Nat) := by omega
    have hvci : ((L.length : Nat) : Int) ≤ vc := by omega
    obtain ⟨⟨g1,g2⟩,g3,g4⟩ := hG
    clear hc hgb hen hl hk hev2
    generalize L[k] = gg at *
    obtain ⟨x0,x1,x2,x3⟩ := gg
    generalize L.length = ln at *
    simp only at g1 g2 g3 g4
    go_wp2_with fail
    go_ret2
    exact ⟨by rw [hev3.out]; rfl,hBW.alloc hBW.size _⟩
 ·have hev2 : ev = 0 := by have := hev.out; rw [if_neg he] at this; exact this
  have he' : (plE a l != 0) = true := by simpa using he
  rw [hev2]
  clear hev hrg hev2 hln4
  generalize plE a l = pe at *
  go_enter Tryz.func10,Tryz.ntmps10
  go_wp2_with (first | (refine wpList_load_row rfl 27 _ rfl w.heap.size rfl 27 _ (0,0) _ hp0.row Tryz.underlying27 rfl (info34 a) ?_) | (refine wpList_load_row rfl 29 _ rfl (w.heap.size + 1) rfl 29 _ (0,0) _ hlr Tryz.underlying29 rfl (by kernel_rfl) ?_))
  refine hpl.mono ?_
  rintro e W ⟨⟨v,rfl,hv⟩,hbW⟩
  have hBW := hB2.trans (hbW.mono hB2.size)
  clear hv hpl hp0 hl0 hlr hw2 hbW
  go_wp2_with fail
  go_ret2
  exact ⟨rfl,hBW⟩
end Go.Proofs.YtbdpghjegachaaaGreatDoor

namespace Go.Proofs.YtbdpghjegachaaaGreatDoor
open Go.RowKit Go.Shelf

theorem bd_st {a : Pa} {x : Int} (h : bdQ a x = true) : (st a.t (loI a x) : Int) = x := by
 unfold bdQ at h
 rcases Bool.or_eq_true _ _ ▸ h with h | h
 ·unfold fndB at h
  rw [Bool.and_eq_true,beq_iff_eq] at h
  exact h.2
 ·have e : x = a.t.size := by simpa using h
  have : loI a x = num a.t := lowN_is (Nat.le_refl _) (fun j hj => by have := num_lt hj; show ((st a.t j : Nat) : Int) < x; omega) (fun j h1 h2 => by omega)
  rw [this,num_end,e]
end Go.Proofs.YtbdpghjegachaaaGreatDoor

namespace Go.Proofs.YtbdpghjegachaaaGreatDoor
open Go.RowKit Go.Shelf

theorem psN_shift (R : Nat → Ms) (x d : Int) : ∀ k,psN R (x + d) k = psN R x k + d
 | 0 => rfl
 | k + 1 => by
  show psN R (x + d) k + (R k).q + (R k).w = psN R x k + (R k).q + (R k).w + d
  rw [psN_shift R x d k]; omega
theorem psN_flat {R : Nat → Ms} {x : Int} {c : Nat} : ∀ {j : Nat},(∀ i,c ≤ i → i < c + j → (R i).q = 0 ∧ (R i).w = 0) → psN R x (c + j) = psN R x c
 | 0,_ => rfl
 | j + 1,h => by
  have h1 := psN_flat (R := R) (x := x) (c := c) (j := j) (fun i h1 h2 => h i h1 (by omega))
  obtain ⟨h2,h3⟩ := h (c + j) (by omega) (by omega)
  show psN R x (c + j) + (R (c + j)).q + (R (c + j)).w = _
  rw [h1,h2,h3]; omega
theorem tabM_in {M : Nat → Ms} {s : Nat} {x : Int} {m k : Nat} (h : k < m) : (tabM M s x m (s + k)).q = (M (s + k)).q ∧ (tabM M s x m (s + k)).w = wdT (M (s + k)) (atQ M s x k) ∧ (tabM M s x m (s + k)).k = (M (s + k)).k := by
 unfold tabM wdT
 rw [show s + k - s = k by omega]
 by_cases h4 : (M (s + k)).k = 4
 ·rw [if_pos ⟨⟨by omega,by omega⟩,h4⟩,if_pos h4]; exact ⟨rfl,rfl,rfl⟩
 ·rw [if_neg (fun h => h4 h.2),if_neg h4]; exact ⟨rfl,rfl,rfl⟩
theorem tabM_out {M : Nat → Ms} {s : Nat} {x : Int} {m i : Nat} (h : i < s ∨ s + m ≤ i) : tabM M s x m i = M i := by
 unfold tabM; rw [if_neg (by omega)]
theorem psN_mid {M : Nat → Ms} {s m : Nat} {x : Int} (h0 : ∀ i,i < s → (M i).q = 0 ∧ (M i).w = 0) : ∀ {k : Nat},k ≤ m → psN (tabM M s x m) x (s + k) = atQ M s x k
 | 0,_ => by
  have := psN_flat (R := tabM M s x m) (x := x) (c := 0) (j := s) (fun i _ h => by rw [tabM_out (.inl (by omega))]; exact h0 i (by omega))
  rw [Nat.zero_add] at this
  exact this
 | k + 1,h => by
  have h1 := psN_mid h0 (x := x) (m := m) (k := k) (by omega)
  obtain ⟨h2,h3,_⟩ := tabM_in (M := M) (s := s) (x := x) (m := m) (k := k) (by omega)
  show psN (tabM M s x m) x (s + k) + (tabM M s x m (s + k)).q + (tabM M s x m (s + k)).w = atQ M s x k + (M (s + k)).q + wdT (M (s + k)) (atQ M s x k)
  rw [h1,h2,h3]
theorem psN_nat {M : Nat → Ms} {s m N : Nat} {x : Int} (h0 : ∀ i,i < N → (i < s ∨ s + m ≤ i) → (M i).q = 0 ∧ (M i).w = 0) (hN : s + m ≤ N) : psN (tabM M s x m) x N = atQ M s x m := by
 have h1 := psN_mid (M := M) (s := s) (m := m) (x := x) (fun i h => h0 i (by omega) (.inl h)) (k := m) (Nat.le_refl _)
 have h2 := psN_flat (R := tabM M s x m) (x := x) (c := s + m) (j := N - (s + m)) (fun i h1 h2 => by rw [tabM_out (.inr h1)]; exact h0 i (by omega) (.inr h1))
 rw [show s + m + (N - (s + m)) = N by omega] at h2
 rw [h2,h1]
theorem mem_bkL {M : Nat → Ms} {s : Nat} : ∀ {n i : Nat},i ∈ bkL M s n ↔ i < n ∧ (M (s + i)).k = 3
 | 0,i => by simp [bkL]
 | n + 1, i => by
  have := mem_bkL (M := M) (s := s) (n := n) (i := i)
  show i ∈ bkL M s n ++ _ ↔ _
  rw [List.mem_append,this]
  by_cases h3 : (M (s + n)).k = 3
  ·rw [if_pos h3,List.mem_singleton]
   constructor
   ·rintro (⟨h1,h2⟩ | rfl)
    ·exact ⟨by omega,h2⟩
    ·exact ⟨by omega,h3⟩
   ·rintro ⟨h1,h2⟩
    by_cases e : i = n
    ·exact .inr e
    ·exact .inl ⟨by omega,h2⟩
  ·rw [if_neg h3]
   simp only [List.not_mem_nil,or_false]
   constructor
   ·rintro ⟨h1,h2⟩; exact ⟨by omega,h2⟩
   ·rintro ⟨h1,h2⟩
    refine ⟨?_,h2⟩
    by_cases e : i = n
    ·subst e; exact absurd h2 h3
    ·omega
theorem shS_same {M : Nat → Ms} {s : Nat} {rm : Int} {i : Nat} (h : (M (s + i)).k ≠ 3) : shS M s rm (i + 1) = shS M s rm i := by
 unfold shS
 show ssL M s rm (bkL M s i ++ _) = _
 rw [if_neg h,List.append_nil]
theorem spQ_q (M : Nat → Ms) (s : Nat) (rm A : Int) (B : List Nat) (i : Nat) : (spQ M s rm A B i).q = (M i).q := by
 unfold spQ; split <;> rfl
theorem psN_low {R S : Nat → Ms} {x : Int} : ∀ {k : Nat},(∀ i,i < k → (R i).q = (S i).q ∧ (R i).w = (S i).w) → psN R x k = psN S x k
 | 0,_ => rfl
 | k + 1,h => by
  have h1 := psN_low (R := R) (S := S) (x := x) (k := k) (fun i hi => h i (by omega))
  obtain ⟨h2,h3⟩ := h k (by omega)
  show psN R x k + (R k).q + (R k).w = psN S x k + (S k).q + (S k).w
  rw [h1,h2,h3]
theorem psN_spread {R : Nat → Ms} {s m : Nat} {x rm A : Int} : ∀ {k : Nat},k ≤ m → psN (spQ R s rm A (bkL R s m)) x (s + k) = psN R x (s + k) + Int.tdiv (rm * shS R s rm k) A
 | 0, _ => by
  have h0 : shS R s rm 0 = 0 := rfl
  rw [h0,Int.mul_zero,Int.zero_tdiv,Int.add_zero]
  exact psN_low (fun i hi => by
   have : spQ R s rm A (bkL R s m) i = R i := by unfold spQ; rw [if_neg (by omega)]
   rw [this]; exact ⟨rfl,rfl⟩)
 | k + 1, h => by
  have h1 := psN_spread (R := R) (s := s) (m := m) (x := x) (rm := rm) (A := A) (k := k) (by omega)
  show psN _ x (s + k) + (spQ R s rm A (bkL R s m) (s + k)).q + (spQ R s rm A (bkL R s m) (s + k)).w = psN R x (s + k) + (R (s + k)).q + (R (s + k)).w + _
  rw [h1,spQ_q]
  by_cases h3 : (R (s + k)).k = 3
  ·have : (spQ R s rm A (bkL R s m) (s + k)).w = (R (s + k)).w + (Int.tdiv (rm * shS R s rm (k + 1)) A - Int.tdiv (rm * shS R s rm k) A) := by
    unfold spQ
    rw [show s + k - s = k by omega,if_pos ⟨by omega,mem_bkL.2 ⟨by omega,h3⟩⟩]
    rfl
   rw [this]; omega
  ·have : spQ R s rm A (bkL R s m) (s + k) = R (s + k) := by
    unfold spQ
    rw [show s + k - s = k by omega,if_neg (fun h => h3 (mem_bkL.1 h.2).2)]
   rw [this,shS_same h3]; omega
theorem psN_spreadN {R : Nat → Ms} {s m N : Nat} {x rm A : Int} (hN : s + m ≤ N) : psN (spQ R s rm A (bkL R s m)) x N = psN R x N + Int.tdiv (rm * shS R s rm m) A := by
 have key : ∀ j,psN (spQ R s rm A (bkL R s m)) x (s + m + j) = psN R x (s + m + j) + Int.tdiv (rm * shS R s rm m) A := fun j => by
  induction j with
  | zero => exact psN_spread (Nat.le_refl m)
  | succ j ih =>
   have : spQ R s rm A (bkL R s m) (s + m + j) = R (s + m + j) := by
    unfold spQ
    rw [if_neg (fun h => by have := (mem_bkL.1 h.2).1; omega)]
   show psN _ x (s + m + j) + (spQ R s rm A (bkL R s m) (s + m + j)).q + (spQ R s rm A (bkL R s m) (s + m + j)).w = psN R x (s + m + j) + (R (s + m + j)).q + (R (s + m + j)).w + _
   rw [ih,this]; omega
 have := key (N - (s + m))
 rw [show s + m + (N - (s + m)) = N by omega] at this
 exact this
def endV (al : Int) (sp : Bool) (nt rm : Int) : Int := if al = 2 then nt + posI rm else if al = 3 then nt + posI rm / 2 else if al = 1 ∧ sp = true then nt + rm else nt
def sprB (last : Bool) (R : Nat → Ms) (s m : Nat) (rm : Int) : Bool := decide (¬ (last = true ∨ aniB (fun m => m.k == 4) R s m = true ∨ bkL R s m = [] ∨ rm < -(shS R s rm m)))
theorem psN_al {R : Nat → Ms} {s m N : Nat} {x rm al : Int} {last : Bool} (hN : s + m ≤ N) :
  psN (alM al last R s m rm) (x + mvI al rm) N = endV al (sprB last R s m rm) (psN R x N) rm := by
 rw [psN_shift]
 unfold alM mvI endV
 by_cases h1 : al = 1
 ·subst h1
  rw [if_pos rfl,if_neg (by decide),if_neg (by decide),if_neg (by decide),if_neg (by decide),Int.add_zero]
  unfold spF sprB
  by_cases hc : last = true ∨ aniB (fun m => m.k == 4) R s m = true ∨ bkL R s m = [] ∨ rm < -(shS R s rm m)
  ·rw [if_pos hc,if_neg (by rw [decide_eq_true_eq]; exact fun h => h.2 hc)]
  ·rw [if_neg hc,if_pos ⟨rfl,decide_eq_true hc⟩,psN_spreadN hN]
   have hA : shS R s rm m ≠ 0 := fun h0 => by
    by_cases hr : rm < 0
    ·exact hc (.inr (.inr (.inr (by omega))))
    ·have e : shS R s rm m = (bkL R s m).length := shS_even hr _
     have : bkL R s m = [] := List.length_eq_zero_iff.1 (by omega)
     exact hc (.inr (.inr (.inl this)))
   rw [Int.mul_tdiv_cancel _ hA]
 ·rw [if_neg h1,if_neg (c := al = 1 ∧ _) (fun h => h1 h.1)]
  by_cases h2 : al = 2
  ·rw [if_pos h2,if_pos h2]
  ·rw [if_neg h2,if_neg h2]
   by_cases h3 : al = 3
   ·rw [if_pos h3,if_pos h3]
   ·rw [if_neg h3,if_neg h3,Int.add_zero]
end Go.Proofs.YtbdpghjegachaaaGreatDoor

namespace Go.Proofs.YtbdpghjegachaaaGreatDoor
open Go.RowKit Go.Shelf

theorem kind3 {x : Int} : kindI x = 3 ↔ x = 32 := by
 unfold kindI
 constructor
 ·intro h; split at h; · omega
  split at h; · assumption
  split at h; · omega
  split at h; · omega
  split at h; · omega
  split at h; · omega
  split at h; · omega
  split at h <;> omega
 ·rintro rfl; decide
theorem kind4 {x : Int} : kindI x = 4 ↔ x = 9 := by
 unfold kindI
 constructor
 ·intro h; split at h; · omega
  split at h; · omega
  split at h; · omega
  split at h; · assumption
  split at h; · omega
  split at h; · omega
  split at h; · omega
  split at h <;> omega
 ·rintro rfl; decide
theorem kind5 {x : Int} : kindI x = 5 ↔ x = 31 := by
 unfold kindI
 constructor
 ·intro h; split at h; · omega
  split at h; · omega
  split at h; · omega
  split at h; · omega
  split at h; · assumption
  split at h; · omega
  split at h; · omega
  split at h <;> omega
 ·rintro rfl; decide
theorem in_cluster {t : ByteArray} {i p : Nat} (hi : i < num t) (h1 : st t i ≤ p) (h2 : p < st t (i + 1)) : p = st t i ∨ (kindI (bt t (st t i)) = 1 ∧ accB (bt t p) = true) := by
 rw [st_succ (num_lt hi)] at h2
 unfold endN at h2
 split at h2
 ·rename_i hk
  split at h2
  ·rename_i ha
   split at h2
   ·rename_i hb
    by_cases e : p = st t i
    ·exact .inl e
    ·refine .inr ⟨hk,?_⟩
     rcases (by omega : p = st t i + 1 ∨ p = st t i + 2) with rfl | rfl
     ·exact ha
     ·exact hb
   ·by_cases e : p = st t i
    ·exact .inl e
    ·obtain rfl : p = st t i + 1 := by omega
     exact .inr ⟨hk,ha⟩
  ·exact .inl (by omega)
 ·exact .inl (by omega)
theorem acc_not {x : Int} (h : accB x = true) : x ≠ 32 ∧ x ≠ 9 ∧ x ≠ 31 := by
 unfold accB at h
 rw [decide_eq_true_eq] at h
 omega
theorem one_byte {t : ByteArray} {i : Nat} (hi : i < num t) (h : kindI (bt t (st t i)) ≠ 1) : st t (i + 1) = st t i + 1 := by
 rw [st_succ (num_lt hi)]
 unfold endN
 rw [if_neg h]
structure Fst (t : ByteArray) (f e fs : Nat) : Prop where
 lo : f ≤ fs
 hi : fs ≤ e
 run : ∀ p,f ≤ p → p < fs → bt t p = 32
 nz : f ≠ 0 → fs = f
 nd : f = 0 → fs < e → bt t fs ≠ 32
def TabIn (t : ByteArray) (fs e : Nat) : Prop := ∃ p,fs ≤ p ∧ p < e ∧ bt t p = 9
def BlkIn (t : ByteArray) (fs e : Nat) : Prop := ∃ p q,fs ≤ p ∧ p < q ∧ q < e ∧ bt t p = 32 ∧ bt t q ≠ 32 ∧ bt t q ≠ 31
theorem toN_last {M : Nat → Ms} : ∀ {n : Nat},0 < toN M n → ¬ ((M (toN M n - 1)).k = 3 ∨ (M (toN M n - 1)).k = 5)
 | 0,h => by simp [toN] at h
 | n + 1,h => by
  by_cases hk : (M n).k = 3 ∨ (M n).k = 5
  ·rw [toN_yes hk] at h ⊢; exact toN_last h
  ·rw [toN_no hk]; exact hk
theorem frG_stop {M : Nat → Ms} : ∀ {n i : Nat},frG M n i < i + n → (M (frG M n i)).k ≠ 3
 | 0,i,h => by simp [frG] at h
 | n + 1,i,h => by
  by_cases hk : (M i).k = 3
  ·rw [frG_yes hk] at h ⊢; exact frG_stop (by omega)
  ·rw [frG_no hk]; exact hk
theorem fwN_stop {M : Nat → Ms} {t : Nat} (h : fwN true M t < t) : (M (fwN true M t)).k ≠ 3 := by
 unfold fwN at h ⊢
 rw [if_pos rfl] at h ⊢
 exact frG_stop (by omega)
section
variable {t : ByteArray} {f0 N fs : Nat} {M : Nat → Ms} {b : Bool}
theorem tab_in (hN : f0 + N ≤ num t) (hM : ∀ i,i < N → (M i).k = kindI (bt t (st t (f0 + i)))) (_hb : b = true ↔ st t f0 = 0) (hF : Fst t (st t f0) (st t (f0 + N)) fs) :
  (∃ i,(fwN b M (toN M N) ≤ i ∧ i < toN M N) ∧ (M i).k = 4) ↔ TabIn t fs (st t (f0 + N)) := by
 have hto := toN_le M N
 constructor
 ·rintro ⟨i,⟨h1,h2⟩,h4⟩
  have hk := hM i (by omega)
  rw [h4] at hk
  have h9 := kind4.1 hk.symm
  refine ⟨st t (f0 + i),?_,?_,h9⟩
  ·apply Classical.byContradiction
   intro h
   have := hF.run (st t (f0 + i)) (st_mono t (by omega)) (by omega)
   omega
  ·exact Nat.lt_of_lt_of_le (st_lt (num_lt (by omega))) (st_mono t (by omega))
 ·rintro ⟨p,h1,h2,h9⟩
  have hpz : p < t.size := Nat.lt_of_lt_of_le h2 (st_le t _)
  obtain ⟨j,hj,hj1,hj2⟩ := has_cluster t hpz
  rcases in_cluster hj hj1 hj2 with e | ⟨_,ha⟩
  ·have hlo := hF.lo
   have hjf : f0 ≤ j := by
    apply Classical.byContradiction
    intro h
    have := st_mono t (show j + 1 ≤ f0 by omega)
    omega
   have hjn : j < f0 + N := by
    apply Classical.byContradiction
    intro h
    have := st_mono t (show f0 + N ≤ j by omega)
    omega
   have hk := hM (j - f0) (by omega)
   rw [show f0 + (j - f0) = j by omega,← e,kind4.2 h9] at hk
   refine ⟨j - f0,⟨?_,?_⟩,hk⟩
   ·apply Classical.byContradiction
    intro h
    have := frN_at (b := b) (M := M) (t := toN M N) (i := j - f0) (by omega)
    omega
   ·apply Classical.byContradiction
    intro h
    have := toN_at (M := M) (N := N) (i := j - f0) (by omega) (by omega)
    omega
  ·have := acc_not ha; omega
theorem blk_in (hN : f0 + N ≤ num t) (hM : ∀ i,i < N → (M i).k = kindI (bt t (st t (f0 + i)))) (hb : b = true ↔ st t f0 = 0) (hF : Fst t (st t f0) (st t (f0 + N)) fs) :
  (∃ i,(fwN b M (toN M N) ≤ i ∧ i < toN M N) ∧ (M i).k = 3) ↔ BlkIn t fs (st t (f0 + N)) := by
 have hto := toN_le M N
 have hlo := hF.lo
 constructor
 ·rintro ⟨i,⟨h1,h2⟩,h3⟩
  have hk := hM i (by omega)
  rw [h3] at hk
  have h32 := kind3.1 hk.symm
  have hl := toN_last (M := M) (n := N) (by omega)
  have hkl := hM (toN M N - 1) (by omega)
  have hil : i < toN M N - 1 := by
   apply Classical.byContradiction
   intro h
   obtain rfl : i = toN M N - 1 := by omega
   exact hl (.inl h3)
  refine ⟨st t (f0 + i),st t (f0 + (toN M N - 1)),?_,st_rise (by omega) (by omega),?_,h32,?_,?_⟩
  ·apply Classical.byContradiction
   intro h
   by_cases hz : st t f0 = 0
   ·have hb' := hb.2 hz
    subst hb'
    have hst := fwN_stop (M := M) (t := toN M N) (by omega)
    have hlt : fwN true M (toN M N) ≠ i := fun e => by rw [e] at hst; exact hst h3
    have hks := hM (fwN true M (toN M N)) (by omega)
    rw [hks] at hst
    have hr := hF.run (st t (f0 + fwN true M (toN M N))) (st_mono t (by omega)) (by
     have := st_mono t (show f0 + fwN true M (toN M N) ≤ f0 + i by omega)
     omega)
    exact hst (kind3.2 hr)
   ·have := hF.nz hz
    have := st_mono t (show f0 ≤ f0 + i by omega)
    omega
  ·exact Nat.lt_of_lt_of_le (st_lt (num_lt (by omega))) (st_mono t (by omega))
  ·intro e; rw [kind3.2 e] at hkl; exact hl (.inl hkl)
  ·intro e; rw [kind5.2 e] at hkl; exact hl (.inr hkl)
 ·rintro ⟨p,q,h1,h2,h3,h32,hq1,hq2⟩
  have hqz : q < t.size := Nat.lt_of_lt_of_le h3 (st_le t _)
  obtain ⟨j,hj,hj1,hj2⟩ := has_cluster t (show p < t.size by omega)
  obtain ⟨k,hk,hk1,hk2⟩ := has_cluster t hqz
  have ep : p = st t j := by
   rcases in_cluster hj hj1 hj2 with e | ⟨_,ha⟩
   ·exact e
   ·have := acc_not ha; omega
  have h1b := one_byte hj (by rw [← ep,kind3.2 h32]; decide)
  have hjf : f0 ≤ j := by
   apply Classical.byContradiction
   intro h
   have := st_mono t (show j + 1 ≤ f0 by omega)
   omega
  have hjk : j < k := by
   apply Classical.byContradiction
   intro h
   have := st_mono t (show k + 1 ≤ j + 1 by omega)
   omega
  have hkn : k < f0 + N := by
   apply Classical.byContradiction
   intro h
   have := st_mono t (show f0 + N ≤ k by omega)
   omega
  have hkk := hM (k - f0) (by omega)
  rw [show f0 + (k - f0) = k by omega] at hkk
  have hkt : k - f0 < toN M N := by
   apply Classical.byContradiction
   intro h
   have h35 := toN_at (M := M) (N := N) (i := k - f0) (by omega) (by omega)
   rw [hkk] at h35
   rcases in_cluster hk hk1 hk2 with e | ⟨h1,_⟩
   ·rw [← e] at h35
    rcases h35 with h | h
    ·exact hq1 (kind3.1 h)
    ·exact hq2 (kind5.1 h)
   ·rw [h1] at h35; omega
  have hkj := hM (j - f0) (by omega)
  rw [show f0 + (j - f0) = j by omega,← ep,kind3.2 h32] at hkj
  refine ⟨j - f0,⟨?_,by omega⟩,hkj⟩
  apply Classical.byContradiction
  intro h
  by_cases hz : st t f0 = 0
  ·have hb' := hb.2 hz
   subst hb'
   have key : ∀ i,i ≤ fwN true M (toN M N) → st t (f0 + i) = st t f0 + i := fun i => by
    induction i with
    | zero => intro _; rfl
    | succ i ih =>
     intro hi
     have hfl := fwN_le true M (toN M N)
     have h3 := frN_at (b := true) (M := M) (t := toN M N) (i := i) (by omega)
     rw [hM i (by omega)] at h3
     have := one_byte (t := t) (i := f0 + i) (by omega) (by rw [h3]; decide)
     rw [show f0 + (i + 1) = f0 + i + 1 by omega,this,ih (by omega)]
     omega
   have hfl := fwN_le true M (toN M N)
   have hrun : ∀ r,r < fwN true M (toN M N) → bt t r = 32 := fun r hr => by
    have h3 := frN_at (b := true) (M := M) (t := toN M N) (i := r) hr
    rw [hM r (by omega),key r (by omega),hz,Nat.zero_add] at h3
    exact kind3.1 h3
   have hfs : fwN true M (toN M N) ≤ fs := by
    apply Classical.byContradiction
    intro h
    have hk0 := key (fwN true M (toN M N)) (Nat.le_refl _)
    have := st_mono t (show f0 + fwN true M (toN M N) ≤ f0 + N by omega)
    exact hF.nd hz (by omega) (hrun fs (by omega))
   have hkj2 := key (j - f0) (by omega)
   rw [show f0 + (j - f0) = j by omega] at hkj2
   omega
  ·have hbf : b = false := by
    cases b
    ·rfl
    ·exact absurd (hb.1 rfl) hz
   subst hbf
   unfold fwN at h
   rw [if_neg (by decide)] at h
   omega
end
end Go.Proofs.YtbdpghjegachaaaGreatDoor
