/-
  What is proved here: how much room a drop capital takes, as Drop of set tells it.
  What is proved here: bounds of a line's glyphs (no program is named).
  What is proved here: where a line's glyphs end, as End of set tells it.
  What is proved here: what refusePlace and Next of cluster tell.
-/
import Derived.Test.YtbdpghjegachaaaGreatDoorG41
namespace Go.Proofs.YtbdpghjegachaaaGreatDoor
open Go.RowKit Go.Shelf

/-- The room of a drop capital. -/
def drV (a : Pa) : Int := if chkI a = 0 ∧ capB a (num a.t) (msI a 0).k = true then cwI a + 4 else 0
set_option maxRecDepth 100000 in
set_option maxHeartbeats 2000000 in
theorem drop_any (a : Pa) (w : World) (hA : PaAt w a) : Calls Tryz.prog 12 #[paV a] w fun e w' => e = .returned (.tuple #[.int .i64 (drV a), .int .i64 (chkI a)]) ∧ Below w.heap.size w w' := by
  have hB := (Below.refl w.heap.size w).alloc (Nat.le_refl _) (Obj.cells (paC a) 27)
  have hP := PB.new w a
  have hms := masses_any a _ (hA.below hB (Nat.le_refl _))
  unfold MassEnd at hms
  have hr := cwI_rng a
  obtain ⟨r0, r1⟩ := hr
  by_cases hck : chkI a = 0
  · have hG := good_of hck
    have hn4 : num a.t ≤ 4096 := Nat.le_trans (num_le a.t) hG.size
    have hcw : Hid (capB a (num a.t) (msI a 0).k = true → ∀ W, Calls Tryz.prog 41 #[.agg (paC a)] W fun e w' => e = .returned (.int .i64 (cwI a)) ∧ Below W.heap.size W w') := fun h W => by
      have hn : 0 < num a.t := by
        unfold capB at h
        rw [Bool.and_eq_true, Bool.and_eq_true, decide_eq_true_eq, decide_eq_true_eq] at h
        exact h.2.1
      exact capitalWidth_any a (by have := num_lt hn; omega) hG.p0 hG.p14 W
    have hcap : Hid (∀ W v, W.ownsRow (w.alloc (.cells (paC a) 27)).heap.size 53 6 v (num a.t) ((mss a).flatMap msL) → ∃ av cap, v = .slice av (num a.t) cap ∧ Calls Tryz.prog 24 #[.agg (paC a), .slice av (num a.t) cap] W fun e w' => e = .returned (.bool (capB a (num a.t) (msI a 0).k)) ∧ Below W.heap.size W w') := fun W v hv => by
      obtain ⟨av, cap, g, rfl, hcap, hav, hR⟩ := rf_row hv
      exact ⟨av, cap, rfl, hasCapital_any a W g (num a.t) cap (fun i => msI a i) hn4 av (fun h => (hav h).1) hR⟩
    have hdr : drV a = if capB a (num a.t) (msI a 0).k = true then cwI a + 4 else 0 := by unfold drV; simp [hck]
    rw [hck] at hms ⊢
    rw [hdr]
    unfold paV at hms ⊢
    generalize cwI a = cw at *
    generalize hcb : capB a (num a.t) (msI a 0).k = cb at *
    clear hA hG hdr hck
    generalize hw1 : w.alloc (.cells (paC a) 27) = w1 at *
    go_enter Tryz.func12, Tryz.ntmps12
    go_wp2_with (refine wpList_load_row rfl 27 _ rfl w.heap.size rfl 27 _ (0, 0) _ hP.row Tryz.underlying27 rfl (info34 a) ?_)
    refine hms.mono ?_
    rintro e W ⟨⟨v, rfl, hv⟩, hbW⟩
    have hv' : W.ownsRow w1.heap.size 53 6 v (num a.t) ((mss a).flatMap msL) := by
      rcases hv with ⟨h, _⟩ | ⟨_, h⟩
      · exact absurd rfl h
      · exact h
    obtain ⟨av, cap, rfl, hc24⟩ := hcap.out W v hv'
    have hPW := hP.below hbW hP.lt
    have hBW := hB.trans (hbW.mono hB.size)
    have hPall : Hid (∀ W', Below W.heap.size W W' → PB W' w.heap.size a ∧ Below w.heap.size w W') := fun W' hb => ⟨hPW.below hb hPW.lt, hBW.trans (hb.mono hBW.size)⟩
    clear hv hv' hcap hms hP hB hbW hw1 hBW hcb
    cases cb
    · clear hcw
      go_wp2_with (first | (refine wpList_load_want 27 _ rfl rfl w.heap.size rfl 27 _ (0, 0) _ hPW.row Tryz.underlying27 rfl (info34 a) ?_) | (go_at_call 24; refine hc24.mono ?_; rintro e W2 ⟨rfl, hb2⟩))
      go_ret2
      exact ⟨rfl, (hPall.out _ hb2).2⟩
    · have hcw1 : Hid (∀ W, Calls Tryz.prog 41 #[.agg (paC a)] W fun e w' => e = .returned (.int .i64 cw) ∧ Below W.heap.size W w') := hcw.out rfl
      clear hcw
      go_wp2_with (first | (refine wpList_load_want 27 _ rfl rfl w.heap.size rfl 27 _ (0, 0) _ hPW.row Tryz.underlying27 rfl (info34 a) ?_) | (go_at_call 24; refine hc24.mono ?_; rintro e W2 ⟨rfl, hb2⟩; obtain ⟨hP2, hB2⟩ := hPall.out _ hb2) | (refine wpList_load_row rfl 27 _ rfl w.heap.size rfl 27 _ (0, 0) _ hP2.row Tryz.underlying27 rfl (info34 a) ?_) | (go_at_call 41; refine (hcw1.out _).mono ?_; rintro e W3 ⟨rfl, hb3⟩))
      go_ret2
      exact ⟨rfl, hB2.trans (hb3.mono hB2.size)⟩
  · have hdr : drV a = 0 := by unfold drV; rw [if_neg (fun h => hck h.1)]
    have hck' : (chkI a != 0) = true := by simpa using hck
    rw [hdr]
    unfold paV at hms ⊢
    clear hdr hA
    generalize chkI a = ec at *
    generalize hw1 : w.alloc (.cells (paC a) 27) = w1 at *
    go_enter Tryz.func12, Tryz.ntmps12
    go_wp2_with (refine wpList_load_row rfl 27 _ rfl w.heap.size rfl 27 _ (0, 0) _ hP.row Tryz.underlying27 rfl (info34 a) ?_)
    refine hms.mono ?_
    rintro e W ⟨⟨v, rfl, hv⟩, hbW⟩
    have hBW := hB.trans (hbW.mono hB.size)
    clear hv hms hP hB hbW hw1
    go_wp2_with fail
    go_ret2
    exact ⟨rfl, hBW⟩
end Go.Proofs.YtbdpghjegachaaaGreatDoor

namespace Go.Proofs.YtbdpghjegachaaaGreatDoor
open Go.RowKit Go.Shelf

/-- A glyph keeps bounds. -/
def GB (g : Gl) : Prop := (-1000000000000 ≤ g.x ∧ g.x ≤ 1000000000000) ∧ -200000000 ≤ g.w ∧ g.w ≤ 200000000
theorem glS_rng {M : Nat → Ms} {N : Nat} {x : Int} (hN : N ≤ 4096) (hx : -1000000000 ≤ x ∧ x ≤ 1000000000) (hM : ∀ i, i < N → (-64 ≤ (M i).q ∧ (M i).q ≤ 0) ∧ -200000000 ≤ (M i).w ∧ (M i).w ≤ 200000000) : ∀ k, k ≤ N → ∀ g ∈ glS M x k, GB g
  | 0, _, g, hg => by simp [glS] at hg
  | k + 1, hk, g, hg => by
    unfold glS at hg
    rcases List.mem_append.1 hg with hg | hg
    · exact glS_rng hN hx hM k (by omega) g hg
    · have e : g = ⟨(M k).f, (M k).t, psN M x k + (M k).q, (M k).w⟩ := by simpa using hg
      have h1 := psN_rng hx hM k (by omega)
      have h2 := hM k (by omega)
      subst e
      refine ⟨?_, h2.2⟩
      show -1000000000000 ≤ psN M x k + (M k).q ∧ psN M x k + (M k).q ≤ 1000000000000
      omega
theorem alM_rng {M : Nat → Ms} {N s n : Nat} {al x rm : Int} {last : Bool} (hs : s + n ≤ N) (hN : N ≤ 4096) (hM : ∀ i, i < N → MOk (M i)) (hrm : -50000000 ≤ rm ∧ rm ≤ 50000000) : ∀ i, i < N → (-64 ≤ (alM al last (tabM M s x n) s n rm i).q ∧ (alM al last (tabM M s x n) s n rm i).q ≤ 0) ∧ -200000000 ≤ (alM al last (tabM M s x n) s n rm i).w ∧ (alM al last (tabM M s x n) s n rm i).w ≤ 200000000 := fun i hi => by
  have e1 := tabM_rng (s := s) (n := n) (x := x) hM hi
  have hm := hM i hi
  have := hm.q0
  have := hm.q1
  unfold alM
  split
  · have e2 := spF_rng (last := last) (M := tabM M s x n) (rm := rm) hs hN (fun j hj => ⟨(tabM_rng (s := s) (n := n) (x := x) hM hj).2.2.2.2.1, (tabM_rng (s := s) (n := n) (x := x) hM hj).2.2.2.2.2⟩) hrm hi
    omega
  · omega
theorem mvI_rng {al rm : Int} (h : -50000000 ≤ rm ∧ rm ≤ 50000000) : 0 ≤ mvI al rm ∧ mvI al rm ≤ 50000000 := by
  have h1 : 0 ≤ posI rm ∧ posI rm ≤ 50000000 := by unfold posI; split <;> omega
  unfold mvI
  split
  · exact h1
  · split <;> omega
theorem fiL_rng {a : Pa} {l : Ln} {last : Bool} {M : Nat → Ms} {s n N : Nat} {hh : Int} {L : List Gl} (hs : s + n ≤ N) (hN : N ≤ 4096) (hM : ∀ i, i < N → MOk (M i)) (hlx : 0 ≤ l.x ∧ l.x ≤ 4095) (hlw : 0 ≤ l.w ∧ l.w ≤ 4095) (hhh : 0 ≤ hh ∧ hh ≤ 64) (hL : ∀ g ∈ L, GB g) : ∀ g ∈ fiL a l last M s n N hh L, GB g := fun g hg => by
  have hat := atN_rng hM (s := s) hlx.1 n hs
  have hrm : -50000000 ≤ (l.w - (atQ M s l.x n + hh - l.x)) ∧ (l.w - (atQ M s l.x n + hh - l.x)) ≤ 50000000 := by omega
  have hmv := mvI_rng (al := a.p.p2) hrm
  have h4 := alM_rng (al := a.p.p2) (x := l.x) (last := last) hs hN hM hrm
  have hx : -1000000000 ≤ l.x + mvI a.p.p2 (l.w - (atQ M s l.x n + hh - l.x)) ∧ l.x + mvI a.p.p2 (l.w - (atQ M s l.x n + hh - l.x)) ≤ 1000000000 := by omega
  unfold fiL at hg
  rcases List.mem_append.1 hg with hg | hg
  · rcases List.mem_append.1 hg with hg | hg
    · exact hL g hg
    · exact glS_rng hN hx h4 N (Nat.le_refl _) g hg
  · split at hg
    · have e : g = ⟨l.t, l.t, psN (alM a.p.p2 last (tabM M s l.x n) s n (l.w - (atQ M s l.x n + hh - l.x))) (l.x + mvI a.p.p2 (l.w - (atQ M s l.x n + hh - l.x))) N, hh⟩ := by simpa using hg
      have h1 := psN_rng hx h4 N (Nat.le_refl _)
      rw [e]
      refine ⟨?_, ?_⟩
      · show -1000000000000 ≤ psN _ _ N ∧ psN _ _ N ≤ 1000000000000
        omega
      · show -200000000 ≤ hh ∧ hh ≤ 200000000
        omega
    · simp at hg
theorem hyI_rng (a : Pa) (l : Ln) (M : Nat → Ms) (N : Nat) : 0 ≤ hyI a l M N ∧ hyI a l M N ≤ 64 := by
  unfold hyI
  split
  · exact hyW_any _
  · omega
theorem lnL_rng {a : Pa} {l : Ln} {last : Bool} {pn : Int → Bool} {M : Nat → Ms} {N : Nat} {L : List Gl} (hN : N ≤ 4096) (hM : ∀ i, i < N → MsOk (M i)) (hlx : 0 ≤ l.x ∧ l.x ≤ 4095) (hlw : 0 ≤ l.w ∧ l.w ≤ 4095) (hL : ∀ g ∈ L, GB g) : ∀ g ∈ lnL a l last pn M N L, GB g := by
  have h1 := toN_le M N
  have h2 := fwN_le (l.f == 0) M (toN M N)
  unfold lnL
  exact fiL_rng (by omega) hN (fun i hi => ptM_ok (loM_ok hi (hM i hi))) hlx hlw (hyI_rng _ _ _ _) hL
theorem plL_rng {a : Pa} {l : Ln} {last : Bool} {pn : Int → Bool} (he : plE a l = 0) : ∀ g ∈ plL a l last pn, GB g := by
  have hck : chkI a = 0 := by
    apply Classical.byContradiction
    intro h
    unfold plE at he
    rw [if_neg h] at he
    exact h he
  have hok : okL a l := by
    apply Classical.byContradiction
    intro h
    unfold plE at he
    rw [if_pos hck, if_neg h] at he
    cases he
  have hG := good_of hck
  have hn4 : num a.t ≤ 4096 := Nat.le_trans (num_le a.t) hG.size
  have ht : loI a l.t ≤ num a.t := lowN_le _ _ _
  unfold plL gyL
  split
  · refine lnL_rng (by omega) (fun i hi => hG.msOk (by omega)) hok.2.2.2.1 hok.2.2.2.2 (fun g hg => ?_)
    have e : g = cpG a (msI a 0) l.x := by simpa using hg
    have hc := cwI_rng a
    have hx := hok.2.2.2.1
    rw [e]
    refine ⟨?_, ?_⟩
    · show -1000000000000 ≤ l.x - cwI a - 4 ∧ l.x - cwI a - 4 ≤ 1000000000000
      omega
    · show -200000000 ≤ cwI a ∧ cwI a ≤ 200000000
      omega
  · exact lnL_rng (by omega) (fun i hi => hG.msOk (by omega)) hok.2.2.2.1 hok.2.2.2.2 (fun g hg => by simp at hg)
theorem lnL_len (a : Pa) (l : Ln) (last : Bool) (pn : Int → Bool) (M : Nat → Ms) (N : Nat) (L : List Gl) : (lnL a l last pn M N L).length = L.length + N + (if l.y = true then 1 else 0) := by
  unfold lnL fiL
  rw [List.length_append, List.length_append, glS_len]
  split <;> rfl
theorem plL_len {a : Pa} {l : Ln} {last : Bool} {pn : Int → Bool} (h : num a.t ≤ 4096) : (plL a l last pn).length ≤ 4098 := by
  have ht : loI a l.t ≤ num a.t := lowN_le _ _ _
  unfold plL gyL
  split
  · rw [lnL_len, List.length_singleton]; split <;> omega
  · rw [lnL_len, List.length_nil]; split <;> omega
theorem plE_ok {a : Pa} {l : Ln} (he : plE a l = 0) : chkI a = 0 ∧ okL a l := by
  have hck : chkI a = 0 := by
    apply Classical.byContradiction
    intro h
    unfold plE at he
    rw [if_neg h] at he
    exact h he
  refine ⟨hck, ?_⟩
  apply Classical.byContradiction
  intro h
  unfold plE at he
  rw [if_pos hck, if_neg h] at he
  cases he
theorem num_4096 {a : Pa} (hck : chkI a = 0) : num a.t ≤ 4096 := Nat.le_trans (num_le a.t) (good_of hck).size
end Go.Proofs.YtbdpghjegachaaaGreatDoor

namespace Go.Proofs.YtbdpghjegachaaaGreatDoor
open Go.RowKit Go.Shelf

def enV (a : Pa) (l : Ln) (last : Bool) : Int := if plE a l = 0 then enI (plL a l last (pnB a)) l.x else 0
set_option maxRecDepth 100000 in
set_option maxHeartbeats 2000000 in
theorem send_any (a : Pa) (l : Ln) (last : Bool) (w : World) (hA : PaAt w a) (htb : Hy.Tab w) : Calls Tryz.prog 10 #[paV a, .agg (lnC l), .bool last] w fun e w' => e = .returned (.tuple #[.int .i64 (enV a l last), .int .i64 (plE a l)]) ∧ Below w.heap.size w w' := by
  have hB1 := (Below.refl w.heap.size w).alloc (Nat.le_refl _) (Obj.cells (paC a) 27)
  have hB2 := hB1.alloc hB1.size (Obj.cells (lnC l) 29)
  have s1 : (w.alloc (.cells (paC a) 27)).heap.size = w.heap.size + 1 := World.size_alloc _ _
  have hp0 : PB ((w.alloc (.cells (paC a) 27)).alloc (.cells (lnC l) 29)) w.heap.size a := ⟨(Below.heap_alloc _ _ _ (by omega)).trans (World.alloc_heap_new w _)⟩
  have hl0 : LB ((w.alloc (.cells (paC a) 27)).alloc (.cells (lnC l) 29)) (w.heap.size + 1) l := ⟨by have := World.alloc_heap_new (w.alloc (.cells (paC a) 27)) (.cells (lnC l) 29); rw [s1] at this; exact this⟩
  have hpl := place_all a l last _ (hA.below hB2 (Nat.le_refl _)) (htb.below hB2)
  have hrg : Hid (plE a l = 0 → ∀ g ∈ plL a l last (pnB a), GB g) := fun h => plL_rng h
  have hev : Hid (enV a l last = if plE a l = 0 then enI (plL a l last (pnB a)) l.x else 0) := rfl
  have hln4 : Hid (plE a l = 0 → (plL a l last (pnB a)).length ≤ 4098) := fun h => plL_len (num_4096 (plE_ok h).1)
  unfold PlEnd at hpl
  have hlC : lnC l = #[.int .i64 l.f, .int .i64 l.t, .int .i64 l.x, .int .i64 l.w, .int .i64 l.n, .bool l.y, .int .i64 l.g] := rfl
  unfold paV at hpl ⊢
  rw [hlC] at hpl hp0 hl0 hB2 ⊢
  have hlr := hl0.row
  rw [hlC] at hlr
  clear hlC
  generalize hw2 : (w.alloc (.cells (paC a) 27)).alloc (.cells #[.int .i64 l.f, .int .i64 l.t, .int .i64 l.x, .int .i64 l.w, .int .i64 l.n, .bool l.y, .int .i64 l.g] 29) = w2 at *
  generalize plL a l last (pnB a) = L at *
  generalize enV a l last = ev at *
  clear hA htb hB1 s1
  by_cases he : plE a l = 0
  · have hgb := hrg.out he
    have hev2 : Hid (ev = enI L l.x) := by have := hev.out; rw [if_pos he] at this; exact this
    rw [he] at hpl ⊢
    have hn8 := hln4.out he
    clear hev hrg he hln4
    go_enter Tryz.func10, Tryz.ntmps10
    go_wp2_with (first | (refine wpList_load_row rfl 27 _ rfl w.heap.size rfl 27 _ (0, 0) _ hp0.row Tryz.underlying27 rfl (info34 a) ?_) | (refine wpList_load_row rfl 29 _ rfl (w.heap.size + 1) rfl 29 _ (0, 0) _ hlr Tryz.underlying29 rfl (by kernel_rfl) ?_))
    refine hpl.mono ?_
    rintro e W ⟨⟨v, rfl, hv⟩, hbW⟩
    obtain ⟨base, hbs, hrow⟩ : ∃ base, w2.heap.size ≤ base ∧ W.ownsRow base 41 4 v L.length (L.flatMap glL) := by
      rcases hv with ⟨h, _⟩ | ⟨_, h⟩
      · exact absurd rfl h
      · exact h
    have hrec := rec_of_row glL_len rfl hrow
    obtain ⟨va, vc, rfl, hvl⟩ := hrec.ex
    have hvc := hrec.le _ _ _ rfl
    have hBW := hB2.trans (hbW.mono hB2.size)
    have c2 := (show LB W (w.heap.size + 1) l from ⟨(hbW.block _ hl0.lt).trans hl0.row⟩).c2
    clear hv hrow hrec hpl hp0 hl0 hlr hw2 hbW hbs
    by_cases hl : L = []
    · subst hl
      have hev3 : Hid (ev = l.x) := hev2.out
      clear hev2
      go_wp2_with fail
      go_ret2
      exact ⟨by rw [hev3.out]; rfl, hBW⟩
    · have hpos : 0 < L.length := List.length_pos_iff.2 hl
      rcases hvl with hvl | ⟨b, o, rfl, hbb, hc⟩
      · exact absurd hvl hl
      · obtain ⟨k, hk⟩ : ∃ k, L.length = k + 1 := ⟨L.length - 1, by omega⟩
        have hkl : k < L.length := by omega
        have n0 := hc k hkl 0 _ rfl
        have n1 := hc k hkl 1 _ rfl
        have n2 := hc k hkl 2 _ rfl
        have n3 := hc k hkl 3 _ rfl
        rw [Nat.add_zero] at n0
        have hG := hgb _ (List.getElem_mem hkl)
        have hen : enI L l.x = L[k].x + L[k].w := by
          unfold enI
          rw [List.getLast?_eq_getElem?, show L.length - 1 = k by omega, List.getElem?_eq_getElem hkl]
        have hev3 : Hid (ev = L[k].x + L[k].w) := hev2.out.trans hen
        have hki : ((L.length : Nat) : Int) - 1 = (k : Nat) := by omega
        have hkL : (k : Int) < (L.length : Nat) := by omega
        have hkw : wrap64 ((k : Nat) : Int) = (k : Nat) := by unfold wrap64; omega
        have hne : (((L.length : Nat) : Int) == 0) = false := by simpa using (by omega : ¬ ((L.length : Nat) : Int) = 0)
        have hl1 : (1 : Int) ≤ (L.length : Nat) := by omega
        have hvci : ((L.length : Nat) : Int) ≤ vc := by omega
        obtain ⟨⟨g1, g2⟩, g3, g4⟩ := hG
        clear hc hgb hen hl hk hev2
        generalize L[k] = gg at *
        obtain ⟨x0, x1, x2, x3⟩ := gg
        generalize L.length = ln at *
        simp only at g1 g2 g3 g4
        go_wp2_with fail
        go_ret2
        exact ⟨by rw [hev3.out]; rfl, hBW.alloc hBW.size _⟩
  · have hev2 : ev = 0 := by have := hev.out; rw [if_neg he] at this; exact this
    have he' : (plE a l != 0) = true := by simpa using he
    rw [hev2]
    clear hev hrg hev2 hln4
    generalize plE a l = pe at *
    go_enter Tryz.func10, Tryz.ntmps10
    go_wp2_with (first | (refine wpList_load_row rfl 27 _ rfl w.heap.size rfl 27 _ (0, 0) _ hp0.row Tryz.underlying27 rfl (info34 a) ?_) | (refine wpList_load_row rfl 29 _ rfl (w.heap.size + 1) rfl 29 _ (0, 0) _ hlr Tryz.underlying29 rfl (by kernel_rfl) ?_))
    refine hpl.mono ?_
    rintro e W ⟨⟨v, rfl, hv⟩, hbW⟩
    have hBW := hB2.trans (hbW.mono hB2.size)
    clear hv hpl hp0 hl0 hlr hw2 hbW
    go_wp2_with fail
    go_ret2
    exact ⟨rfl, hBW⟩
end Go.Proofs.YtbdpghjegachaaaGreatDoor

namespace Go.Proofs.YtbdpghjegachaaaGreatDoor
open Go.RowKit Go.Shelf
attribute [local go_sem] Oper.semAt_some wide_fn wide_depth

set_option maxRecDepth 100000 in
set_option maxHeartbeats 1000000 in
def placeI (t : ByteArray) (a last : Int) : Int := if wrongI t = 0 then (if 0 ≤ a ∧ a ≤ last then 0 else 5) else wrongI t
set_option maxRecDepth 100000 in
set_option maxHeartbeats 1000000 in
theorem refusePlace_any (t : ByteArray) (a last : Int) (w : World) : Calls Tryz.prog 49 #[.string t, .int .i64 a, .int .i64 last] w fun e w' => e = .returned (.int .i64 (placeI t a last)) ∧ w' = w := by
  have hR := refuse_any t w
  rcases wrong_rng t with h | h | h
  · have e0 : placeI t a last = (if 0 ≤ a ∧ a ≤ last then 0 else 5) := if_pos h
    rw [h] at hR
    by_cases h0 : 0 ≤ a
    · by_cases h1 : a ≤ last
      · rw [e0, if_pos ⟨h0, h1⟩]
        go_enter Tryz.func49, Tryz.ntmps49
        go_wp2_with (go_at_call 93; refine hR.mono ?_; rintro e w' ⟨rfl, hww⟩; subst w')
        go_ret
        exact ⟨rfl, rfl⟩
      · rw [e0, if_neg (fun h => h1 h.2)]
        go_enter Tryz.func49, Tryz.ntmps49
        go_wp2_with (go_at_call 93; refine hR.mono ?_; rintro e w' ⟨rfl, hww⟩; subst w')
        go_ret
        exact ⟨rfl, rfl⟩
    · rw [e0, if_neg (fun h => h0 h.1)]
      go_enter Tryz.func49, Tryz.ntmps49
      go_wp2_with (go_at_call 93; refine hR.mono ?_; rintro e w' ⟨rfl, hww⟩; subst w')
      go_ret
      exact ⟨rfl, rfl⟩
  all_goals
    have e0 : placeI t a last = wrongI t := if_neg (by rw [h]; decide)
    rw [e0, h]
    rw [h] at hR
    go_enter Tryz.func49, Tryz.ntmps49
    go_wp2_with (go_at_call 93; refine hR.mono ?_; rintro e w' ⟨rfl, hww⟩; subst w')
    go_ret
    exact ⟨rfl, rfl⟩

theorem steady_boxes {w₁ : World} {own : Nat → Prop} {B C : Nat} (hB : B < w₁.heap.size) (hC : C < w₁.heap.size) (o p : Nat → Obj) : Steady (fun i X W => Base w₁ own X W ∧ W.heap[B]? = some (o i) ∧ W.heap[C]? = some (p i)) :=
  fun _ _ _ _ _ hs ht hx => ⟨hs.1.step ht hx, (hs.1.keep ht hB).trans hs.2.1, (hs.1.keep ht hC).trans hs.2.2⟩

theorem results_cells2 {P : Program} {fn : Func} {p q : Tmp} {t u : TypeId} (h : fn.results = #[.cell p t, .cell q u]) (tmps : Array Value) (w : World) (g k : Nat) (x y : Value)
    (hp : tmps.getD p undef = .pointer (some ⟨g, 0, none⟩)) (hq : tmps.getD q undef = .pointer (some ⟨k, 0, none⟩)) (hA : (isAgg t).run P w = .ok false w) (hB : (isAgg u).run P w = .ok false w)
    (hx : w.cell? ⟨g, 0, none⟩ = some x) (hy : w.cell? ⟨k, 0, none⟩ = some y) : (results fn tmps).run P w = .ok (.tuple #[x, y]) w := by
  have hp' : tmps[p]?.getD undef = .pointer (some ⟨g, 0, none⟩) := by simpa using hp
  have hq' : tmps[q]?.getD undef = .pointer (some ⟨k, 0, none⟩) := by simpa using hq
  simp [results, h, hp', hq', asAddr, run_loadVar_one w t x g hA hx, run_loadVar_one w u y k hB hy]
theorem allocs4x (w : World) (a b c d : Obj) : (((((w.alloc a).alloc b).alloc c).alloc d).heap[w.heap.size]? = some a ∧ ((((w.alloc a).alloc b).alloc c).alloc d).heap[w.heap.size + 1]? = some b) ∧ ((((w.alloc a).alloc b).alloc c).alloc d).heap[w.heap.size + 1 + 1]? = some c ∧ ((((w.alloc a).alloc b).alloc c).alloc d).heap[w.heap.size + 1 + 1 + 1]? = some d := by
  refine ⟨⟨?_, ?_⟩, ?_, ?_⟩ <;> (show ((((w.heap.push a).push b).push c).push d)[_]? = _; simp only [Array.getElem?_push, Array.size_push]; repeat (first | rw [if_pos trivial] | rw [if_pos (by omega)] | rw [if_neg (by omega)]))
set_option maxRecDepth 100000 in
set_option maxHeartbeats 1000000 in
theorem cnext_ok (t : ByteArray) (h : wrongI t = 0) (a i : Nat) (hi : i ≤ num t) (h1 : st t i ≤ a) (h2 : i < num t → a < st t (i + 1)) (ha : a ≤ t.size) (w : World) :
    Calls Tryz.prog 21 #[.string t, .int .i64 a] w fun e w' => e = .returned (.tuple #[.int .i64 (st t (i + 1) : Nat), .int .i64 0]) ∧ Below w.heap.size w w' := by
  have hsz := ok_size h
  have hnl := num_le t
  have hR : ∀ w, Calls Tryz.prog 49 #[.string t, .int .i64 a, .int .i64 (t.size : Int)] w fun e w' => e = .returned (.int .i64 0) ∧ w' = w := fun w => by
    have := refusePlace_any t a (t.size : Int) w
    rwa [show placeI t a (t.size : Int) = 0 by unfold placeI; rw [if_pos h, if_pos (by omega)]] at this
  clear h
  refine callsIn_wide (n := 0).1 ?_
  refine callsIn_of_wp_marks Tryz.func21 rfl trivial ?_ rfl
  simp only [Tryz.ntmps21, List.size_toArray, List.length_cons, List.length_nil, Nat.reduceAdd, Nat.reduceSub, Array.replicate_succ, Array.replicate_zero, List.push_toArray, List.append_toArray, List.nil_append, List.cons_append]
  gi_wp2_with (first | (gi_at_call 49; refine (callsIn_wide.2 (hR _)).mono ?_; rintro e w' ⟨rfl, hww⟩; subst w') | (gi_at_call 50; refine (callsIn_wide.2 (clusters_any _ _)).mono ?_; rintro e w' ⟨rfl, rfl⟩))
  obtain ⟨w1, hw1⟩ : ∃ w1, (((w.alloc (.cells #[.int .i64 a] 3)).alloc (.cells #[.int .i64 0] 3)).alloc (.cells #[.int .i64 0] 32)).alloc (.cells #[.string t] 9) = w1 := ⟨_, rfl⟩
  have hs1 : w1.heap.size = w.heap.size + 4 := by rw [← hw1]; simp
  have hT1 : Turns Noth w w1 := by rw [← hw1]; exact (((Turns.alloc _ _ _).trans (Turns.alloc _ _ _)).trans (Turns.alloc _ _ _)).trans (Turns.alloc _ _ _)
  obtain ⟨⟨hB0, hB1⟩, hB2, hB3⟩ := allocs4x w (.cells #[.int .i64 a] 3) (.cells #[.int .i64 0] 3) (.cells #[.int .i64 0] 32) (.cells #[.string t] 9)
  rw [hw1] at hB0 hB1 hB2 hB3
  have hRd : Read (w.heap.size + 1 + 1 + 1) t w1 := ⟨hB3⟩
  rw [hw1]
  refine wp_range (gf := 94) (lb := #[.pointer (some ⟨w.heap.size + 1 + 1 + 1, 0, none⟩)]) rfl (enters_of Tryz.func94 (by kernel_rfl) rfl) (clusters1_gives (w.heap.size + 1 + 1 + 1) t hsz) (fun _ => rfl)
    (fun j X W => (Base w1 (fun k => k = w.heap.size + 1 ∨ k = w.heap.size + 1 + 1) X W ∧ W.heap[w.heap.size + 1]? = some (.cells #[.int .i64 0] 3) ∧ W.heap[w.heap.size + 1 + 1]? = some (.cells #[.int .i64 0] 32)) ∧ j ≤ i)
    (fun c j X W => (Base w1 (fun k => k = w.heap.size + 1 ∨ k = w.heap.size + 1 + 1) X W ∧ W.heap[w.heap.size + 1]? = some (.cells #[.int .i64 (st t (j + 1) : Nat)] 3) ∧ W.heap[w.heap.size + 1 + 1]? = some (.cells #[.int .i64 0] 32)) ∧ j = i ∧ c = .ret)
    (fun a' j X W => ((Base w1 (fun k => k = w.heap.size + 1 ∨ k = w.heap.size + 1 + 1) X W ∧ W.heap[w.heap.size + 1]? = some (.cells #[.int .i64 0] 3) ∧ W.heap[w.heap.size + 1 + 1]? = some (.cells #[.int .i64 0] 32)) ∧ j ≤ i) ∧
      ∃ B, ¬ X B ∧ W.heap[B]? = some (.cells (clC t j).toArray 100) ∧
      a' = { tmps := #[.string t, .int .i64 a, undef, .pointer (some ⟨w.heap.size, 0, none⟩), .pointer (some ⟨w.heap.size + 1, 0, none⟩), .pointer (some ⟨w.heap.size + 1 + 1, 0, none⟩), .int .i64 0, .pointer (some ⟨B, 0, none⟩), .string t, .int .i64 a, .string t, .int .i64 t.size, .int .i64 0, .int .i64 0, .bool false, undef, .string t, .func (.func 94) #[] #[.pointer (some ⟨w.heap.size + 1 + 1 + 1, 0, none⟩)], .agg (clC t j).toArray, undef, undef, undef, undef, undef, undef, undef, undef], defers := [] })
    ((steady_boxes (by omega) (by omega) _ _).and (Steady.pure _)) (fun c => (steady_boxes (by omega) (by omega) _ _).and (Steady.pure _)) (fun a' => ((steady_boxes (by omega) (by omega) _ _).and (Steady.pure _)).and (steady_round a' _ _)) ?hR ⟨⟨Base.start _ _, hB1, hB2⟩, by omega⟩ ?assign ?body ?done ?stop
  case hR =>
    rintro j X W ⟨⟨hb, _⟩, _⟩
    exact hRd.turns hb.turns (by omega)
  case assign =>
    rintro l j X W K hj ⟨⟨hb, hv, hu⟩, hji⟩ hK
    have hbs := hb.turns.size
    unfold encC
    gi_wp2
    exact hK _ _ (Keeps.alloc _ _ _) ⟨⟨⟨hb.alloc _, (Below.heap_alloc _ _ _ (by omega)).trans hv, (Below.heap_alloc _ _ _ (by omega)).trans hu⟩, hji⟩, W.heap.size, hb.fresh, World.alloc_heap_new _ _, rfl⟩
  case body =>
    rintro l j X a' W hj ⟨⟨⟨hb, hv, hu⟩, hji⟩, B, hB, hr, rfl⟩
    have hf0 : W.frozen? ⟨w.heap.size + 1, 0, none⟩ = false := Lib.frozen_of_heap hv 0
    have hf1 : W.frozen? ⟨w.heap.size + 1 + 1, 0, none⟩ = false := Lib.frozen_of_heap hu 0
    have hc0 : W.cell? ⟨w.heap.size + 1, 0, none⟩ = some (.int .i64 0) := by rw [Lib.cell_of_heap hv]; rfl
    have hc1 : W.cell? ⟨w.heap.size + 1 + 1, 0, none⟩ = some (.int .i64 0) := by rw [Lib.cell_of_heap hu]; rfl
    have hca : W.cell? ⟨w.heap.size, 0, none⟩ = some (.int .i64 a) := by rw [Lib.cell_of_heap ((hb.turns.block _ (by omega) (by omega)).trans hB0)]; rfl
    have hr0 : W.cell? ⟨B, 1, none⟩ = some (.int .i64 (st t (j + 1) : Nat)) := by rw [Lib.cell_of_heap hr]; rfl
    have hbs := hb.turns.size
    by_cases hjj : j = i
    · have hst : (a : Int) < (st t (j + 1) : Nat) := by subst hjj; have := h2 hj; omega
      have hv' := Boxed.set (.int .i64 (st t (j + 1) : Nat)) (show Boxed W (w.heap.size + 1) 3 _ from hv)
      have hu' := Boxed.set (.int .i64 0) (show Boxed (W.setCell ⟨w.heap.size + 1, 0, none⟩ (.int .i64 (st t (j + 1) : Nat))) (w.heap.size + 1 + 1) 32 _ from (Below.heap_setCell _ _ _ _ (by simp)).trans hu)
      have q1 : Hid (((W.setCell ⟨w.heap.size + 1, 0, none⟩ (.int .i64 (st t (j + 1) : Nat))).setCell ⟨w.heap.size + 1 + 1, 0, none⟩ (.int .i64 0)).heap[w.heap.size + 1]? = some (.cells #[.int .i64 (st t (j + 1) : Nat)] 3)) := (Below.heap_setCell _ _ _ _ (by simp)).trans hv'
      have q2 : Hid (((W.setCell ⟨w.heap.size + 1, 0, none⟩ (.int .i64 (st t (j + 1) : Nat))).setCell ⟨w.heap.size + 1 + 1, 0, none⟩ (.int .i64 0)).heap[w.heap.size + 1 + 1]? = some (.cells #[.int .i64 0] 32)) := hu'
      have hj2 : Hid (j = i) := hjj
      clear hv' hu' hjj
      gi_wp2
      refine ⟨(Keeps.set W (fun h => by have := (hb.young _ h).1; simp at this; omega) _).trans (Keeps.set _ (fun h => by have := (hb.young _ h).1; simp at this; omega) _), ⟨(hb.set (.inl rfl) _).set (.inr rfl) _, ?_, ?_⟩, hj2.out, rfl⟩
      · exact q1.out
      · exact q2.out
    · have hst : ¬ (a : Int) < (st t (j + 1) : Nat) := by have := st_mono t (show j + 1 ≤ i by omega); omega
      gi_wp2
      exact ⟨Keeps.refl _ _, ⟨hb, hv, hu⟩, by omega⟩
  case done =>
    rintro D W hD ⟨⟨hb, hv, hu⟩, hji⟩ hK
    have he : Hid (t.size = st t (i + 1)) := by
      show _ = _
      have e : i = num t := by omega
      have := st_step t i; have := st_le t (i + 1); have e2 := num_end t; rw [← e] at e2; omega
    have hf0 : W.frozen? ⟨w.heap.size + 1, 0, none⟩ = false := Lib.frozen_of_heap hv 0
    have hf1 : W.frozen? ⟨w.heap.size + 1 + 1, 0, none⟩ = false := Lib.frozen_of_heap hu 0
    have hc0 : W.cell? ⟨w.heap.size + 1, 0, none⟩ = some (.int .i64 0) := by rw [Lib.cell_of_heap hv]; rfl
    have hc1 : W.cell? ⟨w.heap.size + 1 + 1, 0, none⟩ = some (.int .i64 0) := by rw [Lib.cell_of_heap hu]; rfl
    gi_wp2
    have hv' := Boxed.set (.int .i64 (t.size : Nat)) (show Boxed W (w.heap.size + 1) 3 _ from hv)
    have hu' := Boxed.set (.int .i64 0) (show Boxed (W.setCell ⟨w.heap.size + 1, 0, none⟩ (.int .i64 (t.size : Nat))) (w.heap.size + 1 + 1) 32 _ from (Below.heap_setCell _ _ _ _ (by simp)).trans hu)
    have hK' := (Below.heap_setCell (W.setCell ⟨w.heap.size + 1, 0, none⟩ (.int .i64 (t.size : Nat))) ⟨w.heap.size + 1 + 1, 0, none⟩ (.int .i64 0) D (show D ≠ w.heap.size + 1 + 1 by omega)).trans ((Below.heap_setCell W ⟨w.heap.size + 1, 0, none⟩ (.int .i64 (t.size : Nat)) D (show D ≠ w.heap.size + 1 by omega)).trans hK)
    refine ⟨by simp, .inl ⟨_, _, rfl, run_takeDeferred hK', ?_⟩⟩
    refine ⟨_, results_cells2 rfl _ _ (w.heap.size + 1) (w.heap.size + 1 + 1) (.int .i64 (t.size : Nat)) (.int .i64 0) rfl rfl (agg_no Tryz.underlying3 rfl _) (agg_no Tryz.underlying32 rfl _) (by rw [Lib.cell_of_heap ((heap_put (by omega) _).trans ((Below.heap_setCell _ _ _ _ (by simp)).trans hv'))]; rfl) (by rw [Lib.cell_of_heap ((heap_put (by omega) _).trans hu')]; rfl), by rw [← he.out], below_end hT1 ((hb.set (.inl rfl) _).set (.inr rfl) _) (fun k h => by omega) _⟩
  case stop =>
    rintro D c j W hD hj ⟨⟨hb, hv, hu⟩, hjj, rfl⟩ hK
    have hc0 : W.cell? ⟨w.heap.size + 1, 0, none⟩ = some (.int .i64 (st t (j + 1) : Nat)) := by rw [Lib.cell_of_heap hv]; rfl
    have hc1 : W.cell? ⟨w.heap.size + 1 + 1, 0, none⟩ = some (.int .i64 0) := by rw [Lib.cell_of_heap hu]; rfl
    gi_wp2
    refine ⟨by simp, .inl ⟨_, _, rfl, run_takeDeferred hK, ?_⟩⟩
    refine ⟨_, results_cells2 rfl _ _ (w.heap.size + 1) (w.heap.size + 1 + 1) (.int .i64 (st t (j + 1) : Nat)) (.int .i64 0) rfl rfl (agg_no Tryz.underlying3 rfl _) (agg_no Tryz.underlying32 rfl _) (by rw [Lib.cell_of_heap ((heap_put (by omega) _).trans hv)]; rfl) (by rw [Lib.cell_of_heap ((heap_put (by omega) _).trans hu)]; rfl), by rw [hjj], below_end hT1 hb (fun k h => by omega) _⟩


end Go.Proofs.YtbdpghjegachaaaGreatDoor
