/-
  What is proved here: stops, which may be, which one is behind a place, and where something lands (no program is named).
-/
import Derived.Test.YtbnpplihiolpiaaRec
import Derived.Test.YtbnpplihiolpiaaRows
import Derived.WalkKit
import Derived.WalkSpells
import Derived.LoopN
namespace Go.Proofs.Ytbnpplihiolpiaa
open Go.RowKit Go.Shelf

/-- A stop: where it is, and how it aligns. -/
structure St where
  a : Int
  k : Int
def stL (s : St) : List Value := [.int .i64 s.a, .int .i64 s.k]
theorem stL_len (s : St) : (stL s).length = 2 := rfl
theorem stL_one (s : St) : ∀ u ∈ stL s, u.oneCell' = true := by intro u hu; simp [stL] at hu; rcases hu with rfl | rfl <;> rfl
def stV (s : St) : Value := .agg #[.int .i64 s.a, .int .i64 s.k]

/-- What stands ahead of a stop. -/
def pv (l : List St) (k : Nat) : Int := if k = 0 then 0 else ((l[k - 1]?).map St.a).getD 0
theorem pv_zero (l : List St) : pv l 0 = 0 := rfl
theorem pv_succ (l : List St) (k : Nat) (h : k < l.length) : pv l (k + 1) = l[k].a := by
  unfold pv
  rw [if_neg (by omega), Nat.add_sub_cancel, List.getElem?_eq_getElem h]
  rfl
/-- May a stop be, behind a place? -/
def goodB (p : Int) (s : St) : Bool := decide (p < s.a ∧ s.a ≤ 4095 ∧ (s.k = 0 ∨ s.k = 2 ∨ s.k = 3))
def goodAt (l : List St) (k : Nat) : Bool := match l[k]? with
  | none => true
  | some s => goodB (pv l k) s
theorem goodAt_get (l : List St) (k : Nat) (h : k < l.length) : goodAt l k = goodB (pv l k) l[k] := by
  unfold goodAt
  rw [List.getElem?_eq_getElem h]
def okB (l : List St) : Bool := decide (l.length ≤ 16) && (List.range l.length).all (goodAt l)
def ckI (l : List St) : Int := if okB l = true then 0 else 2
theorem ok_yes {l : List St} (h1 : l.length ≤ 16) (h2 : ∀ k (h : k < l.length), goodB (pv l k) l[k] = true) : ckI l = 0 := by
  refine if_pos ?_
  unfold okB
  rw [Bool.and_eq_true, decide_eq_true_eq, List.all_eq_true]
  refine ⟨h1, fun k hk => ?_⟩
  have := List.mem_range.1 hk
  rw [goodAt_get l k this]
  exact h2 k this
theorem ok_long {l : List St} (h1 : 16 < l.length) : ckI l = 2 := by
  refine if_neg ?_
  unfold okB
  rw [Bool.and_eq_true, decide_eq_true_eq]
  omega
theorem ok_bad {l : List St} (k : Nat) (h : k < l.length) (h2 : goodB (pv l k) l[k] = false) : ckI l = 2 := by
  refine if_neg ?_
  unfold okB
  rw [Bool.and_eq_true, List.all_eq_true]
  rintro ⟨_, h3⟩
  have := h3 k (List.mem_range.2 h)
  rw [goodAt_get l k h, h2] at this
  cases this
theorem ok_get {l : List St} (h : okB l = true) : l.length ≤ 16 ∧ ∀ k (h : k < l.length), goodB (pv l k) l[k] = true := by
  unfold okB at h
  rw [Bool.and_eq_true, decide_eq_true_eq, List.all_eq_true] at h
  exact ⟨h.1, fun k hk => by rw [← goodAt_get l k hk]; exact h.2 k (List.mem_range.2 hk)⟩
theorem good_get {p : Int} {s : St} (h : goodB p s = true) : p < s.a ∧ s.a ≤ 4095 ∧ (s.k = 0 ∨ s.k = 2 ∨ s.k = 3) := of_decide_eq_true h
/-- Stops that may be rise. -/
theorem ok_rise {l : List St} (h : okB l = true) : ∀ j (hj : j < l.length) i (hi : i < j), (l[i]'(by omega)).a < l[j].a := by
  obtain ⟨_, h2⟩ := ok_get h
  intro j
  induction j with
  | zero => intro hj i hi; omega
  | succ j ih =>
    intro hj i hi
    have h3 := (good_get (h2 (j + 1) hj)).1
    rw [pv_succ l j (by omega)] at h3
    by_cases e : i = j
    · subst e; exact h3
    · exact Int.lt_trans (ih (by omega) i (by omega)) h3
theorem ok_pos {l : List St} (h : okB l = true) : ∀ j (hj : j < l.length), 0 < l[j].a := by
  obtain ⟨_, h2⟩ := ok_get h
  intro j hj
  by_cases e : j = 0
  · subst e
    exact (good_get (h2 0 hj)).1
  · have h0 := (good_get (h2 0 (by omega))).1
    rw [pv_zero] at h0
    exact Int.lt_trans h0 (ok_rise h j hj 0 (by omega))

/-- The stop behind a place. -/
def firstS (l : List St) (x : Int) : St := (l.find? (fun s => decide (x < s.a))).getD ⟨(x.tdiv 48 + 1) * 48, 0⟩
theorem first_at {l : List St} {x : Int} (k : Nat) (h : k < l.length) (h1 : ∀ j (hj : j < l.length), j < k → l[j].a ≤ x) (h2 : x < l[k].a) : firstS l x = l[k] := by
  unfold firstS
  have : l.find? (fun s => decide (x < s.a)) = some l[k] := by
    rw [List.find?_eq_some_iff_getElem]
    refine ⟨by simpa using h2, k, h, rfl, fun j hj => ?_⟩
    have := h1 j (by omega) hj
    simp; omega
  rw [this]; rfl
theorem first_no {l : List St} {x : Int} (h1 : ∀ j (hj : j < l.length), l[j].a ≤ x) : firstS l x = ⟨(x.tdiv 48 + 1) * 48, 0⟩ := by
  unfold firstS
  have : l.find? (fun s => decide (x < s.a)) = none := by
    rw [List.find?_eq_none]
    intro s hs
    obtain ⟨j, hj, rfl⟩ := List.getElem_of_mem hs
    have := h1 j hj
    simp; omega
  rw [this]; rfl
theorem first_cases (l : List St) (x : Int) : (∃ k, ∃ h : k < l.length, firstS l x = l[k] ∧ x < l[k].a) ∨ firstS l x = ⟨(x.tdiv 48 + 1) * 48, 0⟩ := by
  unfold firstS
  rcases e : l.find? (fun s => decide (x < s.a)) with _ | s
  · exact .inr (by first | rfl | (rw [e]; rfl))
  · obtain ⟨h1, k, hk, h2, _⟩ := List.find?_eq_some_iff_getElem.1 e
    refine .inl ⟨k, hk, by rw [h2]; first | rfl | (rw [e]; rfl), ?_⟩
    rw [h2]; simpa using h1

/-- What Next answers. -/
def inB (x : Int) : Bool := decide (0 ≤ x ∧ x ≤ 8190)
def nxE (l : List St) (x : Int) : Int := if okB l = true then (if inB x = true then 0 else 5) else 2
def nxS (l : List St) (x : Int) : St := if okB l = true ∧ inB x = true then firstS l x else ⟨0, 0⟩
/-- How much of a width stands ahead of a stop. -/
def hgI (k w : Int) : Int := if k = 2 then w else if k = 3 then w.tdiv 2 else 0
def ldE (l : List St) (x w : Int) : Int := if nxE l x = 0 then (if inB w = true then 0 else 5) else nxE l x
def ldV (l : List St) (x w : Int) : Int := if nxE l x = 0 ∧ inB w = true then max x ((firstS l x).a - hgI (firstS l x).k w) else 0

/-- The stop behind a place, of those that may be, keeps its bounds. -/
theorem first_rng {l : List St} {x : Int} (h : okB l = true) (hx : inB x = true) : x < (firstS l x).a ∧ (firstS l x).a ≤ 8238 ∧ ((firstS l x).k = 0 ∨ (firstS l x).k = 2 ∨ (firstS l x).k = 3) := by
  have hx' : 0 ≤ x ∧ x ≤ 8190 := of_decide_eq_true hx
  rcases first_cases l x with ⟨k, hk, e, hlt⟩ | e
  · rw [e]
    have := good_get ((ok_get h).2 k hk)
    exact ⟨hlt, by omega, this.2.2⟩
  · rw [e]
    have h1 : x.tdiv 48 = x / 48 := Int.tdiv_eq_ediv_of_nonneg hx'.1
    refine ⟨?_, ?_, .inl rfl⟩
    · show x < (x.tdiv 48 + 1) * 48
      rw [h1]; omega
    · show (x.tdiv 48 + 1) * 48 ≤ 8238
      rw [h1]; omega
end Go.Proofs.Ytbnpplihiolpiaa
