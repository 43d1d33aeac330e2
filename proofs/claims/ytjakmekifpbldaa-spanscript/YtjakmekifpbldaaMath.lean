/-
  What is proved here: plain facts on bytes that look like something, and on their runs (no program is named).
-/
import GoSem.Claim
namespace Go.Proofs.Ytjakmekifpbldaa

/-- A look. -/
structure Ch where
  s : Int
  t : Int
  k : Int
deriving DecidableEq, Inhabited

/-- A run: how many bytes, and how they look (or: where it ends, and how it looks). -/
abbrev Sp := Nat × Ch

def expand : List Sp → List Ch
  | [] => []
  | p :: r => List.replicate p.1 p.2 ++ expand r
def tot : List Sp → Nat
  | [] => 0
  | p :: r => p.1 + tot r
def ends : Nat → List Sp → List Sp
  | _, [] => []
  | b, p :: r => (b + p.1, p.2) :: ends (b + p.1) r
def rle : List Ch → List Sp
  | [] => []
  | c :: l => match rle l with
    | [] => [(1, c)]
    | q :: r => if q.2 = c then (q.1 + 1, q.2) :: r else (1, c) :: q :: r

def full (ps : List Sp) : Prop := ∀ p ∈ ps, 0 < p.1
def apart : List Sp → Prop
  | [] => True
  | p :: r => (∀ q, r.head? = some q → q.2 ≠ p.2) ∧ apart r

theorem expand_append (a b : List Sp) : expand (a ++ b) = expand a ++ expand b := by
  induction a with
  | nil => rfl
  | cons p r ih => simp [expand, ih]
theorem tot_append (a b : List Sp) : tot (a ++ b) = tot a + tot b := by
  induction a with
  | nil => simp [tot]
  | cons p r ih => simp [tot, ih, Nat.add_assoc]
theorem tot_expand (a : List Sp) : (expand a).length = tot a := by
  induction a with
  | nil => rfl
  | cons p r ih => simp [expand, tot, ih]
theorem ends_append (n : Nat) (a b : List Sp) : ends n (a ++ b) = ends n a ++ ends (n + tot a) b := by
  induction a generalizing n with
  | nil => simp [ends, tot]
  | cons p r ih => simp [ends, tot, ih, Nat.add_assoc]
theorem ends_length (n : Nat) (a : List Sp) : (ends n a).length = a.length := by
  induction a generalizing n with
  | nil => rfl
  | cons p r ih => simp [ends, ih]
theorem tot_take_le (a : List Sp) (i : Nat) : tot (a.take i) ≤ tot a := by
  have h := tot_append (a.take i) (a.drop i)
  rw [List.take_append_drop] at h
  omega
theorem tot_take_succ (a : List Sp) {i : Nat} (h : i < a.length) : tot (a.take (i + 1)) = tot (a.take i) + a[i].1 := by
  rw [List.take_succ_eq_append_getElem h, tot_append]; simp [tot]
theorem tot_take_mono (a : List Sp) {i j : Nat} (h : i ≤ j) : tot (a.take i) ≤ tot (a.take j) := by
  have : a.take i = (a.take j).take i := by rw [List.take_take, Nat.min_eq_left h]
  rw [this]; exact tot_take_le _ _
theorem ends_get (n : Nat) (a : List Sp) {i : Nat} (h : i < a.length) : (ends n a)[i]? = some (n + tot (a.take (i + 1)), a[i].2) := by
  induction a generalizing n i with
  | nil => simp at h
  | cons p r ih =>
    cases i with
    | zero => simp [ends, tot]
    | succ i =>
      have h' : i < r.length := by simpa using h
      rw [ends, List.getElem?_cons_succ, ih (n + p.1) h']
      simp [tot, Nat.add_assoc]
theorem full_len (a : List Sp) (h : full a) : a.length ≤ tot a := by
  induction a with
  | nil => simp
  | cons p r ih =>
    have h1 := h p (by simp)
    have h2 := ih (fun q hq => h q (by simp [hq]))
    simp [tot]; omega
theorem tot_last (a : List Sp) (h : a ≠ []) : tot (a.take (a.length - 1 + 1)) = tot a := by
  have : 0 < a.length := List.length_pos_iff.2 h
  rw [Nat.sub_add_cancel this, List.take_length]

theorem rle_expand (l : List Ch) : expand (rle l) = l := by
  induction l with
  | nil => rfl
  | cons c l ih =>
    unfold rle
    split
    · rename_i h; rw [h] at ih; simp [expand] at ih ⊢; exact ih
    · rename_i q r h
      rw [h] at ih
      split
      · rename_i hq
        rw [← ih, ← hq]
        simp [expand, List.replicate_succ]
      · rw [← ih]; simp [expand]
theorem rle_full (l : List Ch) : full (rle l) := by
  induction l with
  | nil => simp [full, rle]
  | cons c l ih =>
    unfold rle
    split
    · simp [full]
    · rename_i q r h
      rw [h] at ih
      split
      · intro p hp
        rcases List.mem_cons.1 hp with rfl | hp
        · show 0 < q.1 + 1; omega
        · exact ih p (by simp [hp])
      · intro p hp
        rcases List.mem_cons.1 hp with rfl | hp
        · show 0 < 1; omega
        · exact ih p hp
theorem rle_apart (l : List Ch) : apart (rle l) := by
  induction l with
  | nil => simp [apart, rle]
  | cons c l ih =>
    unfold rle
    split
    · simp [apart]
    · rename_i q r h
      rw [h] at ih
      split
      · exact ih
      · rename_i hq
        exact ⟨fun x hx => by simp at hx; subst hx; exact hq, ih⟩
theorem rle_rep (c : Ch) (m : List Ch) (h : ∀ q, (rle m).head? = some q → q.2 ≠ c) : ∀ n, 0 < n → rle (List.replicate n c ++ m) = (n, c) :: rle m
  | 1, _ => by
    show rle (c :: m) = _
    rw [rle.eq_2]
    generalize rle m = x at h
    match x, h with
    | [], _ => rfl
    | q :: r, h => exact if_neg (h q rfl)
  | n + 2, _ => by
    have ih := rle_rep c m h (n + 1) (by omega)
    rw [List.replicate_succ, List.cons_append, rle, ih]
    simp
theorem rle_unique (ps : List Sp) (h : full ps) (ha : apart ps) : rle (expand ps) = ps := by
  induction ps with
  | nil => rfl
  | cons p r ih =>
    have ih' := ih (fun q hq => h q (by simp [hq])) ha.2
    rw [expand, rle_rep p.2 (expand r) (by rw [ih']; exact ha.1) p.1 (h p (by simp)), ih']
theorem rle_length (l : List Ch) : tot (rle l) = l.length := by rw [← tot_expand, rle_expand]
theorem rle_len_le (l : List Ch) : (rle l).length ≤ l.length := by
  have := full_len _ (rle_full l); rwa [rle_length] at this

theorem apart_snoc (a : List Sp) (p : Sp) (h : apart a) (hp : ∀ q, a.getLast? = some q → q.2 ≠ p.2) : apart (a ++ [p]) := by
  induction a with
  | nil => simp [apart]
  | cons x r ih =>
    refine ⟨fun q hq => ?_, ih h.2 (fun q hq => hp q ?_)⟩
    · cases r with
      | nil => simp at hq; subst hq; exact fun e => hp x rfl e.symm
      | cons y r => simp at hq; subst hq; exact h.1 y rfl
    · cases r with
      | nil => simp at hq
      | cons y r => simpa using hq
theorem apart_last (a : List Sp) (m n : Nat) (c : Ch) (h : apart (a ++ [(m, c)])) : apart (a ++ [(n, c)]) := by
  induction a with
  | nil => simp [apart]
  | cons x r ih =>
    refine ⟨fun q hq => ?_, ih h.2⟩
    cases r with
    | nil => simp at hq; subst hq; exact h.1 (m, c) rfl
    | cons y r => exact h.1 q (by simpa using hq)
theorem full_append (a b : List Sp) (h1 : full a) (h2 : full b) : full (a ++ b) := fun p hp => (List.mem_append.1 hp).elim (h1 p) (h2 p)

/-- Bytes that look otherwise than the last one make a run of their own. -/
theorem rle_new (l : List Ch) (n : Nat) (c : Ch) (hn : 0 < n) (h : ∀ q, (rle l).getLast? = some q → q.2 ≠ c) : rle (l ++ List.replicate n c) = rle l ++ [(n, c)] := by
  have h1 := rle_unique (rle l ++ [(n, c)]) (full_append _ _ (rle_full l) (by intro p hp; simp at hp; subst hp; exact hn)) (apart_snoc _ _ (rle_apart l) h)
  rw [expand_append, rle_expand] at h1
  simpa [expand] using h1
/-- Bytes that look as the last one lengthen its run. -/
theorem rle_more (l : List Ch) (n m : Nat) (c : Ch) (a : List Sp) (h : rle l = a ++ [(m, c)]) : rle (l ++ List.replicate n c) = a ++ [(m + n, c)] := by
  have hf := rle_full l
  have ha := rle_apart l
  have he := rle_expand l
  rw [h] at hf ha he
  have hm := hf (m, c) (by simp)
  have h1 := rle_unique (a ++ [(m + n, c)]) (full_append _ _ (fun p hp => hf p (by simp [hp])) (by intro p hp; simp at hp; subst hp; show 0 < m + n; have : 0 < m := hm; omega)) (apart_last a m (m + n) c ha)
  rw [← h1, ← he]
  simp [expand_append, expand, ← List.replicate_append_replicate]

theorem apart_get (a : List Sp) (h : apart a) {i : Nat} (hi : i + 1 < a.length) : a[i + 1].2 ≠ a[i].2 := by
  induction a generalizing i with
  | nil => simp at hi
  | cons p r ih =>
    cases i with
    | zero =>
      cases r with
      | nil => simp at hi
      | cons q r => exact h.1 q rfl
    | succ i => exact ih h.2 (by simpa using hi)
/-- The bytes of run i. -/
theorem expand_get (a : List Sp) {i j : Nat} (hi : i < a.length) (h1 : tot (a.take i) ≤ j) (h2 : j < tot (a.take (i + 1))) : (expand a)[j]? = some a[i].2 := by
  have hs : a = a.take i ++ (a[i] :: a.drop (i + 1)) := by simp
  have h3 := tot_take_succ a hi
  have hl : (expand (a.take i)).length = tot (a.take i) := tot_expand _
  have he : expand a = expand (a.take i) ++ (List.replicate a[i].1 a[i].2 ++ expand (a.drop (i + 1))) := by
    conv => lhs; rw [hs]
    rw [expand_append, expand]
  rw [he, List.getElem?_append_right (by omega), hl, List.getElem?_append_left (by simp; omega), List.getElem?_replicate, if_pos (by omega)]
end Go.Proofs.Ytjakmekifpbldaa
