/-
  What is proved here: how the glyphs of a line stand to one another (no program is named).
-/
import Derived.Test.YtbdpghjegachaaaGreatDoorG42
namespace Go.Proofs.YtbdpghjegachaaaGreatDoor
open Go.RowKit Go.Shelf

theorem shS_succ {M : Nat → Ms} {s : Nat} {rm : Int} {i : Nat} (h : (M (s + i)).k = 3) : shS M s rm (i + 1) = shS M s rm i + shI rm (M (s + i)) := by
  unfold shS
  rw [show bkL M s (i + 1) = bkL M s i ++ [i] by conv => lhs; unfold bkL
                                                 rw [if_pos h], ssL_app]
theorem share_le {r S h A : Int} (hA : 0 < A) (hr : r ≤ A) (hh : 0 ≤ h) : (r * (S + h)) / A ≤ (r * S) / A + h := by
  have h1 : r * (S + h) ≤ r * S + h * A := by
    have := Int.mul_le_mul_of_nonneg_right hr hh
    rw [Int.mul_add, Int.mul_comm h A]
    omega
  have h2 := Int.ediv_le_ediv hA h1
  rw [Int.add_mul_ediv_right _ _ (by omega)] at h2
  exact h2
theorem spW_pos {M : Nat → Ms} {s n : Nat} {rm : Int} (hn : n ≤ 4096) (hM : ∀ i, i < n → 0 ≤ (M (s + i)).w ∧ (M (s + i)).w ≤ 4095) (hA : 0 < shS M s rm n) (hr : -(shS M s rm n) ≤ rm) {i : Nat} (hi : i < n) (h3 : (M (s + i)).k = 3) : 0 ≤ spW M s rm (shS M s rm n) i := by
  have hw := hM i hi
  have hS := (shS_rng hM hn rm (Nat.le_of_lt hi)).1
  have hh := shI_rng (rm := rm) hw
  unfold spW
  rw [shS_succ h3]
  generalize shS M s rm n = A at *
  by_cases hm : rm < 0
  · have e1 : shI rm (M (s + i)) = (M (s + i)).w / 3 := if_pos hm
    obtain ⟨r, rfl⟩ : ∃ r, rm = -r := ⟨-rm, by omega⟩
    have e2 : ∀ X, 0 ≤ X → Int.tdiv (-r * X) A = -((r * X) / A) := fun X hX => by
      rw [Int.neg_mul, Int.neg_tdiv, Int.tdiv_eq_ediv_of_nonneg (Int.mul_nonneg (by omega) hX)]
    rw [e2 _ (by omega), e2 _ hS]
    have := share_le (S := shS M s (-r) i) hA (show r ≤ A by omega) hh.1
    omega
  · have e2 : ∀ X, 0 ≤ X → Int.tdiv (rm * X) A = (rm * X) / A := fun X hX => Int.tdiv_eq_ediv_of_nonneg (Int.mul_nonneg (by omega) hX)
    rw [e2 _ (by omega), e2 _ hS]
    have h1 : rm * shS M s rm i ≤ rm * (shS M s rm i + shI rm (M (s + i))) := Int.mul_le_mul_of_nonneg_left (by omega) (by omega)
    have := Int.ediv_le_ediv hA h1
    omega
theorem spF_pos {M : Nat → Ms} {N s n : Nat} {rm : Int} {last : Bool} (hs : s + n ≤ N) (hN : N ≤ 4096) (hM : ∀ i, i < N → 0 ≤ (M i).w ∧ (M i).w ≤ 4095) {i : Nat} (hi : i < N) : 0 ≤ (spF last M s n rm i).w := by
  have hM' : ∀ i, i < n → 0 ≤ (M (s + i)).w ∧ (M (s + i)).w ≤ 4095 := fun i hi => hM _ (by omega)
  unfold spF
  split
  · exact (hM i hi).1
  · rename_i hc
    unfold spQ
    split
    · rename_i hb
      obtain ⟨h1, h2⟩ := bkL_mem.1 hb.2
      have hbk : bkL M s n ≠ [] := fun e => hc (.inr (.inr (.inl e)))
      have hrm : ¬ rm < -(shS M s rm n) := fun e => hc (.inr (.inr (.inr e)))
      refine spW_pos (by omega) hM' ?_ (by omega) h1 h2
      by_cases h0 : rm < 0
      · omega
      · unfold shS
        rw [shS_even h0]
        have := List.length_pos_iff.2 hbk
        omega
    · exact (hM i hi).1
/-- What a line's setting keeps of a mass. -/
structure RsOk (m r : Ms) : Prop where
  f : r.f = m.f
  t : r.t = m.t
  w : 0 ≤ r.w
  q : m.q ≤ r.q
theorem alM_ok {M : Nat → Ms} {N s n : Nat} {al x rm : Int} {last : Bool} (hs : s + n ≤ N) (hN : N ≤ 4096) (hM : ∀ i, i < N → MOk (M i)) (hrm : -50000000 ≤ rm ∧ rm ≤ 50000000) {i : Nat} (hi : i < N) : RsOk (M i) (alM al last (tabM M s x n) s n rm i) := by
  have e1 := tabM_rng (s := s) (n := n) (x := x) hM hi
  have hT : ∀ j, j < N → 0 ≤ (tabM M s x n j).w ∧ (tabM M s x n j).w ≤ 4095 := fun j hj => ⟨(tabM_rng (s := s) (n := n) (x := x) hM hj).2.2.2.2.1, (tabM_rng (s := s) (n := n) (x := x) hM hj).2.2.2.2.2⟩
  unfold alM
  split
  · have e2 := spF_rng (last := last) (M := tabM M s x n) (rm := rm) hs hN hT hrm hi
    exact ⟨e2.2.1.trans e1.2.1, e2.2.2.1.trans e1.2.2.1, spF_pos hs hN hT hi, by rw [e2.1, e1.1]; exact Int.le_refl _⟩
  · exact ⟨e1.2.1, e1.2.2.1, (hT i hi).1, by rw [e1.1]; exact Int.le_refl _⟩
theorem seM_ok {l : Ln} {pn : Int → Bool} {M : Nat → Ms} {N i : Nat} (h : MsOk (M i)) : (seM l pn M N i).f = (M i).f ∧ (seM l pn M N i).t = (M i).t ∧ (M i).q ≤ (seM l pn M N i).q := by
  have hk := loM_k (l.f == 0) M N i
  have hq := h.ok.q1
  refine ⟨hk.2.1, hk.2.2.2.1, ?_⟩
  show (M i).q ≤ if i = 0 ∨ pn (loM (l.f == 0) M N i).f = true then 0 else (loM (l.f == 0) M N i).q
  rw [hk.2.2.1]
  split <;> omega
theorem lnL_is (a : Pa) (l : Ln) (last : Bool) (pn : Int → Bool) {M : Nat → Ms} {N : Nat} (hN : N ≤ 4096) (hM : ∀ i, i < N → MsOk (M i)) (hlx : 0 ≤ l.x ∧ l.x ≤ 4095) (hlw : 0 ≤ l.w ∧ l.w ≤ 4095) : ∃ (R : Nat → Ms) (x : Int), (∀ L0, lnL a l last pn M N L0 = L0 ++ glS R x N ++ (if l.y = true then [(⟨l.t, l.t, psN R x N, hyI a l (seM l pn M N) N⟩ : Gl)] else [])) ∧ ∀ i, i < N → RsOk (M i) (R i) := by
  have h1 := toN_le M N
  have h2 := fwN_le (l.f == 0) M (toN M N)
  have hO : ∀ i, i < N → MOk (seM l pn M N i) := fun i hi => ptM_ok (loM_ok hi (hM i hi))
  have hat := atN_rng hO (s := fwN (l.f == 0) M (toN M N)) hlx.1 (toN M N - fwN (l.f == 0) M (toN M N)) (by omega)
  have hh := hyI_rng a l (seM l pn M N) N
  refine ⟨_, _, fun L0 => rfl, fun i hi => ?_⟩
  have h3 := seM_ok (l := l) (pn := pn) (N := N) (hM i hi)
  have h4 := alM_ok (al := a.p.p2) (x := l.x) (last := last) (rm := l.w - (atQ (seM l pn M N) (fwN (l.f == 0) M (toN M N)) l.x (toN M N - fwN (l.f == 0) M (toN M N)) + hyI a l (seM l pn M N) N - l.x)) (show fwN (l.f == 0) M (toN M N) + (toN M N - fwN (l.f == 0) M (toN M N)) ≤ N by omega) hN hO (by omega) hi
  exact ⟨h4.f.trans h3.1, h4.t.trans h3.2.1, h4.w, Int.le_trans h3.2.2 h4.q⟩
theorem glS_get (R : Nat → Ms) (x : Int) : ∀ {k j : Nat}, j < k → (glS R x k)[j]? = some ⟨(R j).f, (R j).t, psN R x j + (R j).q, (R j).w⟩
  | 0, j, h => by omega
  | k + 1, j, h => by
    unfold glS
    by_cases e : j = k
    · subst e
      rw [List.getElem?_append_right (by rw [glS_len]; omega), glS_len, Nat.sub_self]
      rfl
    · rw [List.getElem?_append_left (by rw [glS_len]; omega)]
      exact glS_get R x (by omega)
theorem mid_get (R : Nat → Ms) (x : Int) (L0 H : List Gl) {N j : Nat} (h : j < N) : (L0 ++ glS R x N ++ H)[L0.length + j]? = some ⟨(R j).f, (R j).t, psN R x j + (R j).q, (R j).w⟩ := by
  rw [List.getElem?_append_left (by rw [List.length_append, glS_len]; omega), List.getElem?_append_right (by omega), show L0.length + j - L0.length = j by omega]
  exact glS_get R x h
theorem end_get (R : Nat → Ms) (x : Int) (L0 H : List Gl) (N : Nat) : (L0 ++ glS R x N ++ H)[L0.length + N]? = H[0]? := by
  rw [List.getElem?_append_right (by rw [List.length_append, glS_len]; omega), List.length_append, glS_len, Nat.sub_self]
/-- How the glyphs of a line stand to one another. -/
structure OrdF (a : Pa) (l : Ln) (L : List Gl) (f0 n : Nat) (d : Int) : Prop where
  len : L.length = n + (if l.y = true then 1 else 0)
  le : f0 + n ≤ num a.t
  s0 : (st a.t f0 : Int) = l.f
  s1 : (st a.t (f0 + n) : Int) = l.t
  ff : ∀ j (_ : j < L.length), j < n → L[j].f = (st a.t (f0 + j) : Nat) ∧ L[j].t = (st a.t (f0 + j + 1) : Nat)
  hy : ∀ j (_ : j < L.length), j = n → L[j].f = l.t ∧ L[j].t = l.t
  ap : ∀ (h : 1 < L.length), 0 < d → l.f = 0 → (L[0]'(by omega)).f = 0 → (L[0]'(by omega)).x = l.x - d ∧ (L[0]'(by omega)).w = d - 4
  gp : ∀ j (_ : j + 1 < L.length), ¬ (j = 0 ∧ 0 < d ∧ l.f = 0) → 0 ≤ L[j + 1].w ∧ L[j].x + L[j].w + (if j + 1 < n then (msI a (f0 + j + 1)).q else 0) ≤ L[j + 1].x
theorem bd_st {a : Pa} {x : Int} (h : bdQ a x = true) : (st a.t (loI a x) : Int) = x := by
  unfold bdQ at h
  rcases Bool.or_eq_true _ _ ▸ h with h | h
  · unfold fndB at h
    rw [Bool.and_eq_true, beq_iff_eq] at h
    exact h.2
  · have e : x = a.t.size := by simpa using h
    have : loI a x = num a.t := lowN_is (Nat.le_refl _) (fun j hj => by have := num_lt hj; show ((st a.t j : Nat) : Int) < x; omega) (fun j h1 h2 => by omega)
    rw [this, num_end, e]
theorem at_some {L : List Gl} {j : Nat} {g : Gl} (h : j < L.length) (e : L[j]? = some g) : L[j] = g := by
  rw [List.getElem?_eq_getElem h] at e
  exact Option.some.inj e
theorem ord_ok {a : Pa} {l : Ln} {last : Bool} {pn : Int → Bool} (he : plE a l = 0) : OrdF a l (plL a l last pn) (loI a l.f) (loI a l.t - loI a l.f) (drV a) := by
  obtain ⟨hck, hb1, hb2, hle, hx, hw⟩ := plE_ok he
  have hG := good_of hck
  have hn4 := num_4096 hck
  have ht : loI a l.t ≤ num a.t := lowN_le _ _ _
  have s0 := bd_st hb1
  have s1 := bd_st hb2
  generalize hf0 : loI a l.f = f0 at *
  generalize ht0 : loI a l.t = t0 at *
  have hdr : 0 < drV a → drV a = cwI a + 4 ∧ capB a (num a.t) (msI a 0).k = true := fun h => by
    unfold drV at h ⊢
    by_cases e : chkI a = 0 ∧ capB a (num a.t) (msI a 0).k = true
    · rw [if_pos e]; exact ⟨rfl, e.2⟩
    · rw [if_neg e] at h; omega
  have hfz : l.f = 0 → f0 = 0 := fun e => by
    have h0 : (st a.t f0 : Nat) = st a.t 0 := by show st a.t f0 = 0; omega
    exact st_inj (by omega) (by omega) h0
  by_cases hc : cpB a (num a.t) f0 t0 (msI a 0).k = true
  · have hc' := hc
    unfold cpB at hc'
    rw [Bool.and_eq_true, Bool.and_eq_true, decide_eq_true_eq, decide_eq_true_eq] at hc'
    obtain ⟨rfl, htp, hcap⟩ := hc'
    obtain ⟨R, x, hL, hR⟩ := lnL_is a l last pn (M := fun i => msI a (1 + i)) (N := t0 - 1) (by omega) (fun i hi => hG.msOk (by omega)) hx hw
    have hdv : drV a = cwI a + 4 := by unfold drV; rw [if_pos ⟨hck, hcap⟩]
    have hpl : plL a l last pn = [cpG a (msI a 0) l.x] ++ glS R x (t0 - 1) ++ (if l.y = true then [(⟨l.t, l.t, psN R x (t0 - 1), hyI a l (seM l pn (fun i => msI a (1 + i)) (t0 - 1)) (t0 - 1)⟩ : Gl)] else []) := by
      unfold plL gyL
      rw [hf0, ht0, if_pos hc]
      exact hL _
    have hcw := cwI_rng a
    have hlf : l.f = 0 := by have : st a.t 0 = 0 := rfl; omega
    have hlen : (plL a l last pn).length = t0 + (if l.y = true then 1 else 0) := by
      rw [hpl, List.length_append, List.length_append, glS_len, List.length_singleton]
      split <;> simp <;> omega
    have g0 : (plL a l last pn)[0]? = some (cpG a (msI a 0) l.x) := by rw [hpl]; rfl
    have gm : ∀ j, j < t0 - 1 → (plL a l last pn)[1 + j]? = some ⟨(R j).f, (R j).t, psN R x j + (R j).q, (R j).w⟩ := fun j hj => by rw [hpl]; exact mid_get R x [_] _ hj
    have ge : l.y = true → (plL a l last pn)[1 + (t0 - 1)]? = some ⟨l.t, l.t, psN R x (t0 - 1), hyI a l (seM l pn (fun i => msI a (1 + i)) (t0 - 1)) (t0 - 1)⟩ := fun hy => by
      rw [hpl]
      refine (end_get R x [_] _ _).trans ?_
      rw [if_pos hy]; rfl
    have hyy : ∀ j, j < (plL a l last pn).length → t0 ≤ j → l.y = true ∧ j = 1 + (t0 - 1) := fun j h1 h2 => by
      rw [hlen] at h1
      split at h1
      · rename_i hy; exact ⟨hy, by omega⟩
      · omega
    refine ⟨by rw [hlen]; rfl, by omega, s0, by rw [show 0 + (t0 - 0) = t0 by omega]; exact s1, ?_, ?_, ?_, ?_⟩
    · intro j h hj
      by_cases e : j = 0
      · subst e
        rw [at_some h g0]
        exact ⟨rfl, rfl⟩
      · obtain ⟨i, rfl⟩ : ∃ i, j = 1 + i := ⟨j - 1, by omega⟩
        have hr := hR i (by omega)
        rw [at_some h (gm i (by omega))]
        refine ⟨hr.f.trans ?_, hr.t.trans ?_⟩
        · show ((st a.t (1 + i) : Nat) : Int) = _; rw [Nat.zero_add]
        · show ((st a.t (1 + i + 1) : Nat) : Int) = _; rw [Nat.zero_add]
    · intro j h hj
      obtain ⟨hy, e⟩ := hyy j h (by omega)
      subst e
      rw [at_some h (ge hy)]
      exact ⟨rfl, rfl⟩
    · intro h _ _ _
      rw [at_some (by omega) g0, hdv]
      exact ⟨by show l.x - cwI a - 4 = _; omega, by show cwI a = _; omega⟩
    · intro j h hn
      have hj0 : j ≠ 0 := fun e => hn ⟨e, by omega, hlf⟩
      obtain ⟨i, rfl⟩ : ∃ i, j = 1 + i := ⟨j - 1, by omega⟩
      have hi : i < t0 - 1 := by rw [hlen] at h; split at h <;> omega
      rw [at_some (j := 1 + i) (by omega) (gm i hi)]
      by_cases hl : i + 1 < t0 - 1
      · have hr := hR (i + 1) hl
        rw [at_some (j := 1 + i + 1) h (by rw [show 1 + i + 1 = 1 + (i + 1) by omega]; exact gm (i + 1) hl), if_pos (by omega)]
        refine ⟨hr.w, ?_⟩
        have hq : (msI a (1 + (i + 1))).q ≤ (R (i + 1)).q := hr.q
        rw [show 0 + (1 + i) + 1 = 1 + (i + 1) by omega]
        show psN R x i + (R i).q + (R i).w + _ ≤ psN R x i + (R i).q + (R i).w + (R (i + 1)).q
        omega
      · obtain ⟨hy, e⟩ := hyy (1 + i + 1) h (by omega)
        rw [at_some (j := 1 + i + 1) h (by rw [e]; exact ge hy), if_neg (by omega)]
        refine ⟨(hyI_rng a l _ _).1, ?_⟩
        show psN R x i + (R i).q + (R i).w + 0 ≤ psN R x (t0 - 1)
        rw [show t0 - 1 = i + 1 by omega]
        show _ ≤ psN R x i + (R i).q + (R i).w
        omega
  · obtain ⟨R, x, hL, hR⟩ := lnL_is a l last pn (M := fun i => msI a (f0 + i)) (N := t0 - f0) (by omega) (fun i hi => hG.msOk (by omega)) hx hw
    have hpl : plL a l last pn = [] ++ glS R x (t0 - f0) ++ (if l.y = true then [(⟨l.t, l.t, psN R x (t0 - f0), hyI a l (seM l pn (fun i => msI a (f0 + i)) (t0 - f0)) (t0 - f0)⟩ : Gl)] else []) := by
      unfold plL gyL
      rw [hf0, ht0, if_neg hc]
      exact hL _
    have hlen : (plL a l last pn).length = (t0 - f0) + (if l.y = true then 1 else 0) := by
      rw [hpl, List.length_append, List.length_append, glS_len, List.length_nil]
      split <;> simp
    have gm : ∀ j, j < t0 - f0 → (plL a l last pn)[j]? = some ⟨(R j).f, (R j).t, psN R x j + (R j).q, (R j).w⟩ := fun j hj => by
      have := mid_get R x [] (if l.y = true then [(⟨l.t, l.t, psN R x (t0 - f0), hyI a l (seM l pn (fun i => msI a (f0 + i)) (t0 - f0)) (t0 - f0)⟩ : Gl)] else []) hj
      rw [hpl, ← this, List.length_nil, Nat.zero_add]
    have ge : l.y = true → (plL a l last pn)[t0 - f0]? = some ⟨l.t, l.t, psN R x (t0 - f0), hyI a l (seM l pn (fun i => msI a (f0 + i)) (t0 - f0)) (t0 - f0)⟩ := fun hy => by
      have := end_get R x [] (if l.y = true then [(⟨l.t, l.t, psN R x (t0 - f0), hyI a l (seM l pn (fun i => msI a (f0 + i)) (t0 - f0)) (t0 - f0)⟩ : Gl)] else []) (t0 - f0)
      rw [List.length_nil, Nat.zero_add, ← hpl, if_pos hy] at this
      exact this
    have hyy : ∀ j, j < (plL a l last pn).length → t0 - f0 ≤ j → l.y = true ∧ j = t0 - f0 := fun j h1 h2 => by
      rw [hlen] at h1
      split at h1
      · rename_i hy; exact ⟨hy, by omega⟩
      · omega
    have hnd : 1 < (plL a l last pn).length → 0 < drV a → l.f = 0 → False := fun h1 hd hf => by
      have h0 := hfz hf
      have hcap := (hdr hd).2
      have ht1 : t0 = 0 := by
        apply Classical.byContradiction
        intro hne
        apply hc
        unfold cpB
        rw [hcap, decide_eq_true h0, decide_eq_true (show 0 < t0 by omega)]
        rfl
      rw [hlen] at h1
      split at h1 <;> omega
    refine ⟨hlen, by omega, s0, by rw [show f0 + (t0 - f0) = t0 by omega]; exact s1, ?_, ?_, ?_, ?_⟩
    · intro j h hj
      have hr := hR j hj
      rw [at_some h (gm j hj)]
      exact ⟨hr.f, hr.t⟩
    · intro j h hj
      obtain ⟨hy, e⟩ := hyy j h (by omega)
      subst hj
      rw [at_some h (ge hy)]
      exact ⟨rfl, rfl⟩
    · intro h hd hf _
      exact (hnd h hd hf).elim
    · intro j h _
      have hi : j < t0 - f0 := by rw [hlen] at h; split at h <;> omega
      rw [at_some (j := j) (by omega) (gm j hi)]
      by_cases hl : j + 1 < t0 - f0
      · have hr := hR (j + 1) hl
        rw [at_some (j := j + 1) h (gm (j + 1) hl), if_pos hl]
        refine ⟨hr.w, ?_⟩
        have hq : (msI a (f0 + (j + 1))).q ≤ (R (j + 1)).q := hr.q
        rw [show f0 + j + 1 = f0 + (j + 1) by omega]
        show psN R x j + (R j).q + (R j).w + _ ≤ psN R x j + (R j).q + (R j).w + (R (j + 1)).q
        omega
      · obtain ⟨hy, e⟩ := hyy (j + 1) h (by omega)
        rw [at_some (j := j + 1) h (by rw [e]; exact ge hy), if_neg hl]
        refine ⟨(hyI_rng a l _ _).1, ?_⟩
        show psN R x j + (R j).q + (R j).w + 0 ≤ psN R x (t0 - f0)
        rw [show t0 - f0 = j + 1 by omega]
        show _ ≤ psN R x j + (R j).q + (R j).w
        omega
end Go.Proofs.YtbdpghjegachaaaGreatDoor
