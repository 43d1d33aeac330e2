/-
  What is proved here: chains of styles, each of which has the one ahead of it as its parent, and the last setting of a property (no program is named).
-/
import Derived.Test.YtifkelpgpdgenaaAwakeB
import Derived.Test.YtifkelpgpdgenaaWalkG
namespace Go.Proofs.Ytifkelpgpdgenaa
open Go.RowKit Go.Shelf

/-- The names of the styles. -/
def nm : Nat → Str
  | 0 => e0
  | k + 1 => ⟨#[115, UInt8.ofNat (97 + k)]⟩
theorem nm_ok : ∀ k : Fin 16, nameB (nm (k.val + 1)) = true := by decide
theorem nm_inj : ∀ i j : Fin 16, nm (i.val + 1) = nm (j.val + 1) → i = j := by decide
theorem nm_ne (k : Nat) : nm (k + 1) ≠ e0 := fun e => by
  have := congrArg (fun s : ByteArray => s.data.size) e
  simp [nm, e0] at this
theorem nm_size (k : Nat) : (nm k).size ≤ 16 := by
  cases k with
  | zero => rw [nm, e0_size]; omega
  | succ k => show (#[115, UInt8.ofNat (97 + k)] : Array UInt8).size ≤ 16; simp

abbrev Lst := List (List (Int × Int))
noncomputable def chainS (Ls : Lst) : Nat → Sh
  | 0 => fun _ => none
  | k + 1 => upd (chainS Ls k) (nm (k + 1)) (nm k, Ls.getD k [])
theorem chain_none (Ls : Lst) (u : Str) : ∀ k, (∀ j, j < k → u ≠ nm (j + 1)) → chainS Ls k u = none
  | 0, _ => rfl
  | k + 1, h => by
    show upd _ _ _ u = none
    rw [upd_other _ _ (h k (by omega))]
    exact chain_none Ls u k fun j hj => h j (by omega)
theorem nm_ne2 {i j : Nat} (hi : i < 16) (hj : j < 16) (h : i ≠ j) : nm (i + 1) ≠ nm (j + 1) := fun e => h (by
  have := nm_inj ⟨i, hi⟩ ⟨j, hj⟩ e
  simpa using this)
theorem chain_new (Ls : Lst) {k : Nat} (hk : k < 16) : chainS Ls k (nm (k + 1)) = none := chain_none Ls _ k fun j hj => nm_ne2 hk (by omega) (by omega)
theorem chain_at (Ls : Lst) {j : Nat} : ∀ {k : Nat}, j < k → k ≤ 16 → chainS Ls k (nm (j + 1)) = some (nm j, Ls.getD j [])
  | k + 1, h, hk => by
    show upd _ _ _ _ = _
    by_cases e : j = k
    · subst e; exact upd_same _ _ _
    · rw [upd_other _ _ (nm_ne2 (by omega) (by omega) e)]
      exact chain_at Ls (by omega) (by omega)
theorem chain_parent (Ls : Lst) {k : Nat} (hk : k ≤ 16) : nm k = e0 ∨ (chainS Ls k (nm k)).isSome = true := by
  cases k with
  | zero => exact .inl rfl
  | succ k => right; rw [chain_at Ls (Nat.lt_succ_self k) hk]; rfl
theorem up_in {S : Sh} (h : WF S) {s u : Str} (hu : Up S s u) : u = s ∨ (S u).isSome = true := by
  induction hu with
  | here s => exact .inl rfl
  | step h1 h2 _ ih =>
    rcases ih with ih | ih
    · right
      obtain ⟨x, hx⟩ := h.up _ _ _ h1 h2
      rw [ih, hx]; rfl
    · exact .inr ih
theorem chain_up (Ls : Lst) {k : Nat} (hk : k < 16) (h : WF (chainS Ls k)) : ansUp (chainS Ls k) (nm k) (nm (k + 1)) = false := by
  simp only [ansUp, decide_eq_false_iff_not]
  rintro ⟨_, hu⟩
  rcases up_in h hu with e | e
  · cases k with
    | zero => exact nm_ne 0 e
    | succ k => exact nm_ne2 hk (by omega) (by omega) e
  · rw [chain_new Ls hk] at e; cases e
theorem chain_def (Ls : Lst) {k : Nat} (hk : k < 16) (h : WF (chainS Ls k)) {L : List (Int × Int)} (hL : refuseL L = 0) : defE (chainS Ls k) k (nm (k + 1)) (nm k) L = 0 :=
  defE_ok (nm_ok ⟨k, hk⟩) (chain_parent Ls (by omega)) hL (chain_up Ls hk h) (.inr (by omega))
theorem chain_cnt (Ls : Lst) {k : Nat} (hk : k < 16) : cntN (chainS Ls k) (nm (k + 1)) k = k + 1 := by
  unfold cntN; rw [chain_new Ls hk]; rfl
/-- What the first k lists make. -/
def foldK (l : List Int) (Ls : Lst) (k : Nat) : List Int := (Ls.take k).foldl applyL l
theorem foldK_succ (l : List Int) (Ls : Lst) {k : Nat} (h : k < Ls.length) : foldK l Ls (k + 1) = applyL (foldK l Ls k) (Ls.getD k []) := by
  unfold foldK
  rw [List.take_succ_eq_append_getElem h, List.foldl_append, List.getD_eq_getElem?_getD, List.getElem?_eq_getElem h]; rfl
theorem foldK_length (l : List Int) (Ls : Lst) : ∀ k, (foldK l Ls k).length = l.length := by
  intro k
  unfold foldK
  generalize Ls.take k = X
  induction X generalizing l with
  | nil => rfl
  | cons x r ih => rw [List.foldl_cons, ih, applyL_length]
theorem chain_makes (Ls : Lst) (l : List Int) {n : Nat} (hn : n ≤ 16) (hl : n ≤ Ls.length) : ∀ k, k ≤ n → Makes (chainS Ls n) l (nm k) (foldK l Ls k)
  | 0, _ => .top
  | k + 1, h => by
    rw [foldK_succ l Ls (by omega)]
    exact .style (chain_at Ls (by omega) hn) (nm_ne k) (chain_makes Ls l hn hl k (by omega))

/-- The last setting of a property. -/
def lastL (L : List (Int × Int)) (n : Int) : Option Int := (L.reverse.find? (fun q => q.1 == n)).map (·.2)
theorem lastL_snoc (L : List (Int × Int)) (q : Int × Int) (n : Int) : lastL (L ++ [q]) n = if q.1 = n then some q.2 else lastL L n := by
  unfold lastL
  rw [List.reverse_append]
  by_cases h : q.1 = n
  · simp [h]
  · have h' : (q.1 == n) = false := by simpa using h
    simp [h, h']
theorem lastL_hit {L : List (Int × Int)} {n : Int} {k : Nat} (hk : k < L.length) (h1 : L[k].1 = n) : lastL (L.take (k + 1)) n = some L[k].2 := by
  rw [List.take_succ_eq_append_getElem hk, lastL_snoc, if_pos h1]
theorem lastL_miss {L : List (Int × Int)} {n : Int} {k : Nat} (hk : k < L.length) (h1 : L[k].1 ≠ n) : lastL (L.take (k + 1)) n = lastL (L.take k) n := by
  rw [List.take_succ_eq_append_getElem hk, lastL_snoc, if_neg h1]

theorem applyL_get (l : List Int) (hl : l.length = 17) (L : List (Int × Int)) (hL : allP L) {n : Int} (hn : 1 ≤ n ∧ n ≤ 17) : (applyL l L).getD (n.toNat - 1) 0 = (lastL L n).getD (l.getD (n.toNat - 1) 0) := by
  have key : ∀ k, k ≤ L.length → (applyL l (L.take k)).getD (n.toNat - 1) 0 = (lastL (L.take k) n).getD (l.getD (n.toNat - 1) 0) := by
    intro k
    induction k with
    | zero => intro _; rfl
    | succ k ih =>
      intro hk
      have hk' : k < L.length := by omega
      have hq := hL L[k] (List.getElem_mem hk')
      rw [applyL_step l L hk']
      by_cases e : L[k].1 = n
      · rw [lastL_hit hk' e, e]
        have : n.toNat - 1 < (applyL l (L.take k)).length := by rw [applyL_length]; omega
        simp [List.getD_eq_getElem?_getD, this]
      · rw [lastL_miss hk' e, ← ih (by omega)]
        have : L[k].1.toNat - 1 ≠ n.toNat - 1 := by omega
        simp [List.getD_eq_getElem?_getD, List.getElem?_set_ne this]
  have := key L.length (Nat.le_refl _)
  rwa [List.take_length] at this

theorem applyL_may (l : List Int) (hl : l.length = 17) (hm : mayP l = true) (L : List (Int × Int)) (hL : ∀ q ∈ L, mayS q.1 q.2 = true) : mayP (applyL l L) = true := by
  have key : ∀ k, k ≤ L.length → mayP (applyL l (L.take k)) = true := by
    intro k
    induction k with
    | zero => intro _; exact hm
    | succ k ih =>
      intro hk
      have hk' : k < L.length := by omega
      have hq := hL L[k] (List.getElem_mem hk')
      have hp := mayS_isP hq
      have ih' := ih (by omega)
      rw [applyL_step l L hk']
      refine mayP_yes fun j hj => ?_
      by_cases e : L[k].1.toNat - 1 = j
      · have hlen : j < (applyL l (L.take k)).length := by rw [applyL_length]; omega
        rw [e]
        simp [List.getD_eq_getElem?_getD, hlen]
        have e2 : (j : Int) + 1 = L[k].1 := by omega
        rw [e2]; exact hq
      · simp [List.getD_eq_getElem?_getD, List.getElem?_set_ne e]
        have := List.all_eq_true.1 ih' j (List.mem_range.2 hj)
        simpa [List.getD_eq_getElem?_getD] using this
  have := key L.length (Nat.le_refl _)
  rwa [List.take_length] at this
theorem base_may : mayP baseL = true := by decide
/-- Of the first k lists: the nearest setting. -/
def wantK (Ls : Lst) (n : Int) : Nat → Int
  | 0 => baseL.getD (n.toNat - 1) 0
  | k + 1 => (lastL (Ls.getD k []) n).getD (wantK Ls n k)
theorem want_fold (Ls : Lst) (hL : ∀ k, k < Ls.length → allP (Ls.getD k [])) {n : Int} (hn : 1 ≤ n ∧ n ≤ 17) : ∀ k, k ≤ Ls.length → (foldK baseL Ls k).getD (n.toNat - 1) 0 = wantK Ls n k
  | 0, _ => rfl
  | k + 1, h => by
    rw [foldK_succ baseL Ls (by omega), applyL_get _ (by rw [foldK_length]; rfl) _ (hL k (by omega)) hn, want_fold Ls hL hn k (by omega)]; rfl
theorem fold_may (Ls : Lst) (hL : ∀ k, k < Ls.length → ∀ q ∈ Ls.getD k [], mayS q.1 q.2 = true) : ∀ k, k ≤ Ls.length → mayP (foldK baseL Ls k) = true
  | 0, _ => base_may
  | k + 1, h => by
    rw [foldK_succ baseL Ls (by omega)]
    exact applyL_may _ (by rw [foldK_length]; rfl) (fold_may Ls hL k (by omega)) _ (hL k (by omega))
end Go.Proofs.Ytifkelpgpdgenaa
