/-
  What is proved here: what is true of the lines of items (no program is named): each begins behind the one ahead, with Glues and a Penalty between them; each is as wide as it says, ends at a legal break, and is as full as can be.
  What is proved here: what next of the law answers; widths and breaks of items that may be.
  What is proved here: FirstFits answers true.
-/
import Derived.Test.YtnnlfeimebiboaaGreatDoorG5
import Derived.Test.YtnnlfeimebiboaaGreatDoorG4
import Derived.Test.YtnnlfeimebiboaaGreatDoorG35
namespace Go.Proofs.YtnnlfeimebiboaaGreatDoor
open Go.RowKit Go.Shelf

/-- The first legal break above a place, or -1. -/
def nxG (l : List It) : Nat → Nat → Int
  | 0, _ => -1
  | n + 1, b => if enB l b = true then (b : Int) else nxG l n (b + 1)
def nxI (l : List It) (a : Nat) : Int := nxG l (l.length - a) (a + 1)
/-- No legal break lies between two places. -/
def NoB (l : List It) (a b : Nat) : Prop := ∀ i, a < i → i < b → enB l i = false
theorem nxG_is {l : List It} : ∀ n b b', b ≤ b' → b' < b + n → enB l b' = true → (∀ i, b ≤ i → i < b' → enB l i = false) → nxG l n b = b'
  | 0, b, b', h1, h2, _, _ => by omega
  | n + 1, b, b', h1, h2, h3, h4 => by
    unfold nxG
    by_cases e : b = b'
    · subst e; rw [if_pos h3]
    · rw [if_neg (by rw [h4 b (Nat.le_refl _) (by omega)]; decide)]
      exact nxG_is n (b + 1) b' (by omega) (by omega) h3 (fun i h5 h6 => h4 i (by omega) h6)
theorem nx_is {l : List It} {a b : Nat} (h1 : a < b) (h2 : b ≤ l.length) (h3 : enB l b = true) (h4 : NoB l a b) : nxI l a = b :=
  nxG_is _ _ _ (by omega) (by omega) h3 (fun i h5 h6 => h4 i (by omega) h6)
theorem nxG_get {l : List It} : ∀ n b, nxG l n b = -1 ∨ ∃ b', nxG l n b = (b' : Nat) ∧ b ≤ b' ∧ b' < b + n ∧ enB l b' = true ∧ ∀ i, b ≤ i → i < b' → enB l i = false
  | 0, b => .inl rfl
  | n + 1, b => by
    unfold nxG
    by_cases h : enB l b = true
    · rw [if_pos h]; exact .inr ⟨b, rfl, Nat.le_refl _, by omega, h, fun i h1 h2 => by omega⟩
    · rw [if_neg h]
      rcases nxG_get n (b + 1) with h1 | ⟨b', h1, h2, h3, h4, h5⟩
      · exact .inl h1
      · refine .inr ⟨b', h1, by omega, by omega, h4, fun i h6 h7 => ?_⟩
        by_cases e : i = b
        · subst e; simpa using h
        · exact h5 i (by omega) h7
theorem nx_get {l : List It} {a : Nat} : nxI l a = -1 ∨ ∃ b, nxI l a = (b : Nat) ∧ a < b ∧ b ≤ l.length ∧ enB l b = true ∧ NoB l a b := by
  rcases nxG_get (l := l) (l.length - a) (a + 1) with h | ⟨b, h1, h2, h3, h4, h5⟩
  · exact .inl h
  · exact .inr ⟨b, h1, by omega, by omega, h4, fun i h6 h7 => h5 i (by omega) h7⟩
theorem en_end (l : List It) : enB l l.length = true := by unfold enB; exact decide_eq_true (.inl rfl)

/-- What is true of a line from a on. -/
structure LnF (l : List It) (a : Nat) (s : Sl) (q : Pc) : Prop where
  ea : q.a = a
  eb : a < q.b ∧ q.b ≤ l.length
  en : enB l q.b = true
  ent : q.nt = ntV l a q.b s.x
  ewd : q.wd = decide (s.w < q.nt)
  wide : q.wd = true → NoB l a q.b
  full : q.wd = false → ∀ b', q.b < b' → b' ≤ l.length → enB l b' = true → NoB l q.b b' → s.w < ntV l a b' s.x
theorem lnG_fine {l : List It} {a : Nat} {s : Sl} : ∀ n b (p : Pc), a < b → l.length + 1 = b + n →
    ((p = pc0 a ∧ NoB l a b ∧ a < l.length) ∨ (p.a = a ∧ a < p.b ∧ p.b < b ∧ enB l p.b = true ∧ p.wd = false ∧ p.nt = ntV l a p.b s.x ∧ p.nt ≤ s.w ∧ NoB l p.b b)) → LnF l a s (lnG l a s n b p)
  | 0, b, p, hb, hn, h => by
    rcases h with ⟨_, h2, h3⟩ | ⟨h1, h2, h3, h4, h5, h6, h7, h8⟩
    · have := h2 l.length h3 (by omega)
      rw [en_end] at this; cases this
    · refine ⟨h1, ⟨h2, by show p.b ≤ _; omega⟩, h4, h6, ?_, fun h => ?_, fun _ b' k1 k2 k3 _ => ?_⟩
      · show p.wd = decide (s.w < p.nt); rw [h5]; exact (decide_eq_false (by omega)).symm
      · have h' : p.wd = true := h; rw [h5] at h'; cases h'
      · have := h8 b' k1 (by omega)
        rw [k3] at this; cases this
  | n + 1, b, p, hb, hn, h => by
    unfold lnG
    by_cases he : enB l b = true
    · rw [if_pos he]
      by_cases hw : s.w < ntV l a b s.x
      · rw [if_pos hw]
        by_cases hp : a < p.b
        · rw [if_pos hp]
          rcases h with ⟨h1, _, _⟩ | ⟨h1, h2, h3, h4, h5, h6, h7, h8⟩
          · rw [h1] at hp; exact absurd hp (Nat.lt_irrefl _)
          · refine ⟨h1, ⟨h2, by omega⟩, h4, h6, (by rw [h5]; exact (decide_eq_false (by omega)).symm), (fun h => by (rw [h5] at h; cases h)), fun _ b' k1 k2 k3 k4 => ?_⟩
            have : b' = b := by
              by_cases k5 : b' < b
              · have := h8 b' k1 k5; rw [k3] at this; cases this
              · by_cases k6 : b < b'
                · have := k4 b (by omega) k6; rw [he] at this; cases this
                · omega
            rw [this]; exact hw
        · rw [if_neg hp]
          rcases h with ⟨_, h2, h3⟩ | ⟨_, h2, _⟩
          · exact ⟨rfl, ⟨hb, by show b ≤ _; omega⟩, he, rfl, (decide_eq_true hw).symm, fun _ => h2, fun h => by cases h⟩
          · exact absurd h2 hp
      · rw [if_neg hw]
        exact lnG_fine n (b + 1) _ (by omega) (by omega) (.inr ⟨rfl, hb, by show b < _; omega, he, rfl, rfl, by show ntV _ _ _ _ ≤ _; omega, fun i k1 k2 => by have k1 : b < i := k1; omega⟩)
    · rw [if_neg he]
      have he' : enB l b = false := by simpa using he
      refine lnG_fine n (b + 1) p (by omega) (by omega) ?_
      rcases h with ⟨h1, h2, h3⟩ | ⟨h1, h2, h3, h4, h5, h6, h7, h8⟩
      · refine .inl ⟨h1, fun i k1 k2 => ?_, h3⟩
        by_cases e : i = b
        · rw [e]; exact he'
        · exact h2 i k1 (by omega)
      · refine .inr ⟨h1, h2, by omega, h4, h5, h6, h7, fun i k1 k2 => ?_⟩
        by_cases e : i = b
        · rw [e]; exact he'
        · exact h8 i k1 (by omega)
theorem lnP_fine {l : List It} {a : Nat} {s : Sl} (h : a < l.length) : LnF l a s (lnP l a s) := lnG_fine _ _ _ (by omega) (by omega) (.inl ⟨rfl, fun i k1 k2 => by omega, h⟩)

/-- Items between two lines: Glues, and the Penalty at which the one ahead ends. -/
theorem sk_glue {l : List It} : ∀ n i j, i ≤ j → j < skG l n i → (itAt l j).k = 2
  | 0, i, j, h1, h2 => by have h2 : j < i := h2; omega
  | n + 1, i, j, h1, h2 => by
    unfold skG at h2
    split at h2
    · rename_i h3
      by_cases e : i = j
      · subst e; exact h3.2
      · exact sk_glue n (i + 1) j (by omega) h2
    · omega
theorem bg_glue {l : List It} {b j : Nat} (h1 : b ≤ j) (h2 : j < bgN l b) : (itAt l j).k = 2 ∨ (j = b ∧ (itAt l j).k = 3) := by
  unfold bgN at h2
  split at h2
  · rename_i h3
    by_cases e : j = b
    · subst e; exact .inr ⟨rfl, h3.2⟩
    · exact .inl (sk_glue _ _ _ (by omega) h2)
  · exact .inl (sk_glue _ _ _ h1 h2)

def pcz : Pc := ⟨0, 0, false, false, 0⟩
def pcAt (ps : List Pc) (k : Nat) : Pc := ps.getD k pcz
theorem pcAt_is {ps : List Pc} {k : Nat} (h : k < ps.length) : pcAt ps k = ps[k] := by unfold pcAt; rw [List.getD_eq_getElem?_getD, List.getElem?_eq_getElem h]; rfl
/-- Where line k's items may begin. -/
def atP (ps : List Pc) (k : Nat) : Nat := if k = 0 then 0 else (pcAt ps (k - 1)).b
theorem lsG_at {l : List It} {ss : List Sl} {r : Sl} : ∀ f a n k, k < (lsG l ss r f a n).length → ∃ A, pcAt (lsG l ss r f a n) k = lnP l A (slN ss r (n + k)) ∧ (k = 0 → A = a) ∧ (k ≠ 0 → A = bgN l (pcAt (lsG l ss r f a n) (k - 1)).b ∧ A < l.length)
  | 0, a, n, k, h => by simp [lsG] at h
  | f + 1, a, n, k, h => by
    cases k with
    | zero => exact ⟨a, by unfold lsG; rfl, fun _ => rfl, fun h => absurd rfl h⟩
    | succ k =>
      have hk : bgN l (lnP l a (slN ss r n)).b < l.length := by
        by_cases hb : bgN l (lnP l a (slN ss r n)).b < l.length
        · exact hb
        · unfold lsG at h; rw [if_neg hb] at h; simp at h
      have e : lsG l ss r (f + 1) a n = lnP l a (slN ss r n) :: lsG l ss r f (bgN l (lnP l a (slN ss r n)).b) (n + 1) := by
        conv => lhs; unfold lsG
        rw [if_pos hk]
      rw [e] at h ⊢
      obtain ⟨A, h1, h2, h3⟩ := lsG_at f (bgN l (lnP l a (slN ss r n)).b) (n + 1) k (by simpa using h)
      refine ⟨A, ?_, (fun h => by cases h), fun _ => ?_⟩
      · show pcAt (lsG l ss r f _ (n + 1)) k = _
        rw [h1, show n + 1 + k = n + (k + 1) by omega]
      · cases k with
        | zero =>
          have := h2 rfl
          subst this
          exact ⟨rfl, hk⟩
        | succ k => exact h3 (by omega)
theorem lsG_last {l : List It} {ss : List Sl} {r : Sl} : ∀ f a n, l.length < a + f → a ≤ l.length → 0 < (lsG l ss r f a n).length ∧ ¬ bgN l (pcAt (lsG l ss r f a n) ((lsG l ss r f a n).length - 1)).b < l.length
  | 0, a, n, h, h' => by omega
  | f + 1, a, n, h, h' => by
    by_cases hb : bgN l (lnP l a (slN ss r n)).b < l.length
    · have e : lsG l ss r (f + 1) a n = lnP l a (slN ss r n) :: lsG l ss r f (bgN l (lnP l a (slN ss r n)).b) (n + 1) := by
        conv => lhs; unfold lsG
        rw [if_pos hb]
      rw [e]
      have hp := lnP_le (s := slN ss r n) h'
      have hg := bg_le hp.2
      have h6 : a < bgN l (lnP l a (slN ss r n)).b := by
        by_cases ha : a < l.length
        · have := lnP_b (s := slN ss r n) ha; omega
        · omega
      obtain ⟨h1, h2⟩ := lsG_last (ss := ss) (r := r) f (bgN l (lnP l a (slN ss r n)).b) (n + 1) (by omega) hg.2
      refine ⟨by simp, ?_⟩
      rw [List.length_cons, Nat.add_sub_cancel]
      have e2 : pcAt (lnP l a (slN ss r n) :: lsG l ss r f (bgN l (lnP l a (slN ss r n)).b) (n + 1)) (lsG l ss r f (bgN l (lnP l a (slN ss r n)).b) (n + 1)).length = pcAt (lsG l ss r f (bgN l (lnP l a (slN ss r n)).b) (n + 1)) ((lsG l ss r f (bgN l (lnP l a (slN ss r n)).b) (n + 1)).length - 1) := by
        obtain ⟨m, hm⟩ : ∃ m, (lsG l ss r f (bgN l (lnP l a (slN ss r n)).b) (n + 1)).length = m + 1 := ⟨(lsG l ss r f (bgN l (lnP l a (slN ss r n)).b) (n + 1)).length - 1, by omega⟩
        rw [hm]; rfl
      rw [e2]; exact h2
    · have e : lsG l ss r (f + 1) a n = [lnP l a (slN ss r n)] := by
        conv => lhs; unfold lsG
        rw [if_neg hb]
      rw [e]
      exact ⟨by simp, hb⟩

/-- What is true of line k of all lines. -/
structure LkF (l : List It) (ss : List Sl) (r : Sl) (R : List Pc) (k : Nat) : Prop where
  ord : atP R k ≤ (pcAt R k).a ∧ (pcAt R k).a ≤ (pcAt R k).b ∧ (pcAt R k).b ≤ l.length
  gap : ∀ i, atP R k ≤ i → i < (pcAt R k).a → (itAt l i).k = 2 ∨ (k ≠ 0 ∧ i = atP R k ∧ (itAt l i).k = 3)
  line : (R.length = 1 ∧ (pcAt R k).a = l.length) ∨ ((pcAt R k).a < l.length ∧ LnF l (pcAt R k).a (slN ss r k) (pcAt R k))
theorem lsL_line {l : List It} {ss : List Sl} {r : Sl} {k : Nat} (h : k < (lsL l ss r).length) : LkF l ss r (lsL l ss r) k := by
  have hsk := sk_le (l := l) (l.length + 1) 0 (by omega)
  obtain ⟨A, h1, h2, h3⟩ := lsG_at (l := l) (ss := ss) (r := r) (l.length + 1) (sk l 0) 0 k h
  rw [Nat.zero_add] at h1
  have h1' : pcAt (lsL l ss r) k = lnP l A (slN ss r k) := h1
  have hA : A ≤ l.length := by
    by_cases e : k = 0
    · rw [h2 e]; exact hsk.2
    · exact Nat.le_of_lt (h3 e).2
  have hle := lnP_le (s := slN ss r k) hA
  have ha := lnP_a l A (slN ss r k)
  have hprev : k ≠ 0 → (pcAt (lsL l ss r) (k - 1)).b ≤ l.length := fun e => by
    obtain ⟨A', q1, q2, q3⟩ := lsG_at (l := l) (ss := ss) (r := r) (l.length + 1) (sk l 0) 0 (k - 1) (by have : k < (lsG l ss r (l.length + 1) (sk l 0) 0).length := h; omega)
    have q1' : pcAt (lsL l ss r) (k - 1) = lnP l A' (slN ss r (0 + (k - 1))) := q1
    rw [q1']
    have : A' ≤ l.length := by
      by_cases e : k - 1 = 0
      · rw [q2 e]; exact hsk.2
      · exact Nat.le_of_lt (q3 e).2
    exact (lnP_le this).2
  have hAB : k ≠ 0 → A = bgN l (pcAt (lsL l ss r) (k - 1)).b := fun e => (h3 e).1
  have hat : atP (lsL l ss r) k ≤ A := by
    unfold atP
    split
    · omega
    · rename_i e
      rw [hAB e]
      exact (bg_le (hprev e)).1
  refine ⟨⟨by rw [h1', ha]; exact hat, by rw [h1', ha]; exact hle.1, by rw [h1']; exact hle.2⟩, fun i k1 k2 => ?_, ?_⟩
  · rw [h1', ha] at k2
    by_cases e : k = 0
    · left
      rw [h2 e] at k2
      exact sk_glue _ _ _ (Nat.zero_le _) k2
    · unfold atP at k1 ⊢
      rw [if_neg e] at k1 ⊢
      rw [hAB e] at k2
      rcases bg_glue k1 k2 with q | ⟨q1, q2⟩
      · exact .inl q
      · exact .inr ⟨e, q1, q2⟩
  · rw [h1', ha]
    by_cases e : A < l.length
    · exact .inr ⟨e, lnP_fine e⟩
    · left
      have e0 : k = 0 := by
        by_cases e0 : k = 0
        · exact e0
        · exact absurd (h3 e0).2 e
      have hsl : sk l 0 = l.length := by have := h2 e0; omega
      refine ⟨?_, by omega⟩
      show (lsA l ss r (sk l 0) 0).length = 1
      rw [hsl, lsA_end (by rw [lnP_end]; show ¬ bgN l l.length < _; rw [bg_end]; omega)]
      rfl
theorem lsL_tail {l : List It} {ss : List Sl} {r : Sl} : 0 < (lsL l ss r).length ∧ ∀ i, atP (lsL l ss r) (lsL l ss r).length ≤ i → i < l.length → (itAt l i).k = 2 ∨ (i = atP (lsL l ss r) (lsL l ss r).length ∧ (itAt l i).k = 3) := by
  have hsk := sk_le (l := l) (l.length + 1) 0 (by omega)
  obtain ⟨h1, h2⟩ := lsG_last (l := l) (ss := ss) (r := r) (l.length + 1) (sk l 0) 0 (by omega) hsk.2
  have h1' : 0 < (lsL l ss r).length := h1
  refine ⟨h1', fun i k1 k2 => ?_⟩
  unfold atP at k1 ⊢
  rw [if_neg (by omega)] at k1 ⊢
  have h2' : ¬ bgN l (pcAt (lsL l ss r) ((lsL l ss r).length - 1)).b < l.length := h2
  exact bg_glue k1 (by omega)
theorem lsL_few {l : List It} {ss : List Sl} {r : Sl} : (lsL l ss r).length ≤ l.length + 1 := by
  have := lsG_len (l := l) (ss := ss) (r := r) (l.length + 1) (sk l 0) 0 (sk_le (l.length + 1) 0 (by omega)).2
  show (lsG l ss r (l.length + 1) (sk l 0) 0).length ≤ _
  omega
end Go.Proofs.YtnnlfeimebiboaaGreatDoor

namespace Go.Proofs.YtnnlfeimebiboaaGreatDoor
open Go.RowKit Go.Shelf

theorem lg_en {l : List It} (h : ckL l = 0) {b : Nat} (hb : b ≤ l.length) : lgB l b = enB l b := by
  unfold lgB rfL
  rw [if_neg (by simpa using h), if_pos (by omega), Int.toNat_natCast]
  simp
theorem wi_nt {l : List It} (h : ckL l = 0) {a b : Nat} {x : Int} (hab : a ≤ b) (hb : b ≤ l.length) (hx : 0 ≤ x ∧ x ≤ 4095) : wiV l a b x = ntV l a b x ∧ wiE l a b x = 0 := by
  have hr : rfL l (a : Int) (b : Int) = 0 := by
    unfold rfL
    rw [if_neg (by simpa using h), if_pos (by omega)]
  have he : wiE l (a : Int) (b : Int) x = 0 := by
    unfold wiE
    rw [hr, if_neg (by simp), if_pos hx]
  refine ⟨?_, he⟩
  unfold wiV
  rw [if_pos he, Int.toNat_natCast, Int.toNat_natCast]
theorem nxG_no {l : List It} {b : Nat} (hb : b ≤ l.length) (h : enB l b = false) : nxG l (l.length + 1 - b) b = nxG l (l.length + 1 - (b + 1)) (b + 1) := by
  rw [show l.length + 1 - b = (l.length + 1 - (b + 1)) + 1 by omega]
  conv => lhs; unfold nxG
  rw [if_neg (by rw [h]; decide)]
theorem nxG_yes {l : List It} {b : Nat} (hb : b ≤ l.length) (h : enB l b = true) : nxG l (l.length + 1 - b) b = b := by
  rw [show l.length + 1 - b = (l.length + 1 - (b + 1)) + 1 by omega]
  unfold nxG
  rw [if_pos h]
set_option maxRecDepth 100000 in
set_option maxHeartbeats 2000000 in
theorem next_any (v : Value) (l : List It) (a : Nat) (hck : ckL l = 0) (ha : a ≤ l.length) (w : World) (hS : ItsAt w v l) :
    Calls Tryz.prog 21 #[v, .int .i64 a] w fun e w' => e = .returned (.int .i64 (nxI l a)) ∧ Below w.heap.size w w' := by
  have h8 := ck_len hck
  have hL : Hid (∀ (b : Nat) W, b ≤ l.length → Below w.heap.size w W → Calls Tryz.prog 20 #[v, .int .i64 (b : Nat)] W fun e w' => e = .returned (.bool (enB l b)) ∧ Below W.heap.size W w') := fun b W hb hW => by
    have := legal_any v l b W (hS.below hW (Nat.le_refl _))
    rwa [lg_en hck hb] at this
  obtain ⟨a0, cap, rfl, -⟩ := hS.ex
  have hR : Hid (nxG l (l.length + 1 - (a + 1)) (a + 1) = nxI l a) := by
    show _ = nxG l (l.length - a) (a + 1)
    rw [show l.length + 1 - (a + 1) = l.length - a by omega]
  have hl8 : (l.length : Int) ≤ 8192 := by omega
  have ha8 : (a : Int) ≤ 8192 := by omega
  clear hS hck
  generalize nxI l a = R at *
  go_enter Tryz.func21, Tryz.ntmps21
  go_wp2_with fail
  go_loopw [5] (fun i wr => ∃ b : Nat, (a < b ∧ b ≤ l.length + 1) ∧ i = .int .i64 b ∧ Below w.heap.size w wr ∧ Hid (nxG l (l.length + 1 - b) b = R)) (fun i _ => l.length + 1 - (intOf i).toNat)
  case atStart => exact ⟨a + 1, by omega, by simp, Below.refl _ _, hR⟩
  case round =>
    obtain ⟨b, ⟨hb0, hb1⟩, rfl, hb, hr⟩ := hrel
    by_cases hbl : b ≤ l.length
    · have hbl' : (b : Int) ≤ l.length := by omega
      have hlg : Hid (Calls Tryz.prog 20 #[.slice a0 l.length cap, .int .i64 (b : Nat)] wr fun e w' => e = .returned (.bool (enB l b)) ∧ Below wr.heap.size wr w') := hL.out b wr hbl hb
      cases he : enB l b with
      | true =>
        rw [he] at hlg
        have e : R = (b : Nat) := by rw [← hr.out, nxG_yes hbl he]
        subst e
        clear hL hR hr he
        go_wp2_with (go_at_call 20; refine hlg.out.mono ?_; rintro e w2 ⟨rfl, hb2⟩)
        go_ret
        exact ⟨rfl, hb.trans (hb2.mono hb.size)⟩
      | false =>
        rw [he] at hlg
        have hr2 : Hid (nxG l (l.length + 1 - (b + 1)) (b + 1) = R) := by show _ = _; rw [← nxG_no hbl he]; exact hr.out
        clear hL hR hr he
        go_wp2_with (go_at_call 20; refine hlg.out.mono ?_; rintro e w2 ⟨rfl, hb2⟩)
        go_roundw
        case rel => exact ⟨b + 1, by omega, by simp, hb.trans (hb2.mono hb.size), hr2⟩
        case measure => simp [intOf]; omega
    · have hbl' : ¬ (b : Int) ≤ l.length := by omega
      have e : R = -1 := by rw [← hr.out, show b = l.length + 1 by omega, Nat.sub_self]; rfl
      subst e
      clear hL hR hr
      go_wp2_with fail
      go_ret
      exact ⟨rfl, hb⟩
end Go.Proofs.YtnnlfeimebiboaaGreatDoor

namespace Go.Proofs.YtnnlfeimebiboaaGreatDoor
open Go.RowKit Go.Shelf

set_option maxRecDepth 100000 in
set_option maxHeartbeats 4000000 in
theorem fits_skip (v vs : Value) (l : List It) (ss : List Sl) (r : Sl) (hs : ss.length ≤ 9223372036854775807) (w : World) (hS : ItsAt w v l) (hV : SlsAt w vs ss) (h : brE l ss r ≠ 0 ∨ 200 < l.length) :
    Calls Tryz.prog 5 #[v, vs, .agg (slL r).toArray] w fun e w' => e = .returned (.bool true) ∧ Below w.heap.size w w' := by
  obtain ⟨a, cap, rfl, -⟩ := hS.ex
  obtain ⟨a2, cap2, rfl, -⟩ := hV.ex
  have hB := (Below.refl w.heap.size w).alloc (Nat.le_refl _) (.cells #[.int .i64 r.x, .int .i64 r.w] 25)
  have hS1 := hS.below hB (Nat.le_refl _)
  have hV1 := hV.below hB (Nat.le_refl _)
  have hD : (w.alloc (.cells #[.int .i64 r.x, .int .i64 r.w] 25)).heap[w.heap.size]? = some (.cells #[.int .i64 r.x, .int .i64 r.w] 25 (0, 0)) := World.alloc_heap_new w _
  have hlt : w.heap.size < (w.alloc (.cells #[.int .i64 r.x, .int .i64 r.w] 25)).heap.size := by simp
  have hBh : Hid (Below w.heap.size w (w.alloc (.cells #[.int .i64 r.x, .int .i64 r.w] 25))) := hB
  show Calls Tryz.prog 5 #[.slice a l.length cap, .slice a2 ss.length cap2, .agg #[.int .i64 r.x, .int .i64 r.w]] w _
  generalize hwz : (w.alloc (.cells #[.int .i64 r.x, .int .i64 r.w] 25)) = wz at *
  have hcl : Hid (∀ W, Below wz.heap.size wz W → W.cell? ⟨w.heap.size, 0, none⟩ = some (.int .i64 r.x) ∧ W.cell? ⟨w.heap.size, 1, none⟩ = some (.int .i64 r.w)) := fun W hW => by
    have := (hW.block _ hlt).trans hD
    exact ⟨by rw [Lib.cell_of_heap this]; rfl, by rw [Lib.cell_of_heap this]; rfl⟩
  have f4 : Hid (Calls Tryz.prog 4 #[] wz fun e w' => e = .returned (.bool true) ∧ Below wz.heap.size wz w') := known4 wz
  have f8 : Hid (∀ W, Below wz.heap.size wz W → Calls Tryz.prog 8 #[.slice a l.length cap, .slice a2 ss.length cap2, .agg #[.int .i64 r.x, .int .i64 r.w]] W fun e w' => (∃ va vn vc, e = .returned (.tuple #[.slice va vn vc, .int .i64 (brE l ss r)])) ∧ Below wz.heap.size wz w') := fun W hW => by
    refine (break_any _ _ l ss r hs W (hS1.below hW (Nat.le_refl _)) (hV1.below hW (Nat.le_refl _))).mono ?_
    rintro e w' ⟨⟨v, rfl, hv⟩, hb⟩
    refine ⟨?_, hW.trans (hb.mono hW.size)⟩
    rcases hv with ⟨_, rfl⟩ | ⟨_, hv⟩
    · exact ⟨_, _, _, rfl⟩
    · obtain ⟨va, vc, rfl, -⟩ := hv.ex
      exact ⟨_, _, _, rfl⟩
  clear hS hV hS1 hV1 hD hlt hB
  generalize brE l ss r = br at *
  by_cases h1 : br = 0
  · have q1 : (br != 0) = false := by rw [h1]; rfl
    have q2 : (200 : Int) < l.length := by rcases h with h | h <;> omega
    clear h h1
    go_enter Tryz.func5, Tryz.ntmps5
    go_wp2_with (first | (go_at_call 4; refine f4.out.mono ?_; rintro e w1 ⟨rfl, hb1⟩; obtain ⟨x1, x2⟩ := hcl.out w1 hb1) | (go_at_call 8; refine (f8.out w1 hb1).mono ?_; rintro e w2 ⟨⟨va, vn, vc, rfl⟩, hb2⟩))
    go_ret
    exact ⟨rfl, hBh.out.trans (hb2.mono hBh.out.size)⟩
  · have q1 : (br != 0) = true := by simpa using h1
    clear h h1
    go_enter Tryz.func5, Tryz.ntmps5
    go_wp2_with (first | (go_at_call 4; refine f4.out.mono ?_; rintro e w1 ⟨rfl, hb1⟩; obtain ⟨x1, x2⟩ := hcl.out w1 hb1) | (go_at_call 8; refine (f8.out w1 hb1).mono ?_; rintro e w2 ⟨⟨va, vn, vc, rfl⟩, hb2⟩))
    go_ret
    exact ⟨rfl, hBh.out.trans (hb2.mono hBh.out.size)⟩
end Go.Proofs.YtnnlfeimebiboaaGreatDoor
