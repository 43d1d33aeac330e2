/-
  What is proved here: exceptions without their signs, and where these stand (no function of the program is named).
-/
import Derived.Test.YtfblhpkndfbhgaaDoorFoldM
import Derived.Test.YtfblhpkndfbhgaaDoorRefE
namespace Go.Proofs.YtfblhpkndfbhgaaDoor

theorem foldl_some {x : Bs} : ∀ (xs : List Bs) (E : Ex), (x ∈ xs ∨ (E (excW x)).isSome = true) → ((xs.foldl (fun E x => setV E (excW x) (excP x)) E) (excW x)).isSome = true
  | [], E, h => by rcases h with h | h; cases h; exact h
  | y :: xs, E, h => by
    rw [List.foldl_cons]
    refine foldl_some xs _ ?_
    rcases h with h | h
    · rcases List.mem_cons.1 h with rfl | h
      · right; unfold setV; rw [if_pos rfl]; rfl
      · exact .inl h
    · right
      unfold setV
      by_cases e : excW x = excW y
      · rw [if_pos e]; rfl
      · rw [if_neg e]; exact h
theorem exE_isSome {xs : List Bs} {u : Bs} : (exE xs u).isSome = true ↔ ∃ x ∈ xs, bare x = u := by
  constructor
  · intro h
    obtain ⟨d, hd⟩ := Option.isSome_iff_exists.1 h
    obtain ⟨x, hx, h1, -⟩ := exE_some xs.length xs rfl hd
    exact ⟨x, hx, by rw [← excW_bare]; exact h1⟩
  · rintro ⟨x, hx, rfl⟩
    rw [← excW_bare]
    exact foldl_some xs _ (.inl hx)
theorem fresh_hit {xs : List Bs} {i k : Nat} (hi : i < xs.length) (hk : k < i) (h : bare (xs[i]'hi) = bare (xs[k]'(by omega))) : freshB (xs.take i) (xs.drop i) = false := by
  rw [fresh_no xs _ i hi rfl, exE_isSome.2 ⟨xs[k]'(by omega), ?_, ?_⟩]
  · rfl
  · rw [List.mem_take_iff_getElem]
    exact ⟨k, by omega, rfl⟩
  · rw [excW_bare, h]
theorem fresh_go {xs : List Bs} {i : Nat} (hi : i < xs.length) (h : ∀ k (hk : k < i), bare (xs[i]'hi) ≠ bare (xs[k]'(by omega))) : freshB (xs.take i) (xs.drop i) = freshB (xs.take (i + 1)) (xs.drop (i + 1)) := by
  rw [fresh_no xs _ i hi rfl]
  have : (exE (xs.take i) (excW xs[i])).isSome = false := by
    rw [Bool.eq_false_iff]
    intro hc
    obtain ⟨x, hx, h1⟩ := exE_isSome.1 hc
    rw [List.mem_take_iff_getElem] at hx
    obtain ⟨k, hk, rfl⟩ := hx
    exact h k (by omega) (by rw [← excW_bare, ← h1])
  rw [this]; rfl
theorem exE_at {x : Bs} : ∀ (zs ys : List Bs), freshB ys zs = true → (x ∈ zs ∨ exE ys (excW x) = some (excP x)) → exE (ys ++ zs) (excW x) = some (excP x)
  | [], ys, _, h => by
    rw [List.append_nil]
    rcases h with h | h
    · cases h
    · exact h
  | z :: zs, ys, hf, h => by
    rw [freshB, Bool.and_eq_true, Bool.not_eq_true'] at hf
    rw [show ys ++ z :: zs = (ys ++ [z]) ++ zs by simp]
    refine exE_at zs (ys ++ [z]) hf.2 ?_
    rcases h with h | h
    · rcases List.mem_cons.1 h with rfl | h
      · right; rw [exE_snoc]; unfold setV; rw [if_pos rfl]
      · exact .inl h
    · right
      rw [exE_snoc]
      unfold setV
      rw [if_neg]
      · exact h
      · intro e
        rw [← e, h] at hf
        cases hf.1
/-- Where the signs stand, counted in letters. -/
def dashP : Bs → Nat → List Int
  | [], _ => []
  | c :: l, n => if c == 45 then (n : Int) :: dashP l n else dashP l (n + 1)
def cumP : Nat → List Bs → List Int
  | _, [] => []
  | _, [_] => []
  | n, h :: h2 :: t => ((n + h.length : Nat) : Int) :: cumP (n + h.length) (h2 :: t)
theorem parts_cons (l : Bs) : ∃ h t, parts l = h :: t := by
  obtain ⟨_, h, t, e, _⟩ := pq_parts l
  exact ⟨h, t, e⟩
theorem dash_cum : ∀ (l : Bs) (n : Nat), dashP l n = cumP n (parts l)
  | [], n => rfl
  | c :: l, n => by
    obtain ⟨h, t, e⟩ := parts_cons l
    rw [dashP, parts]
    by_cases hc : (c == 45) = true
    · rw [if_pos hc, if_pos hc, dash_cum l n, e]; rfl
    · rw [if_neg hc, if_neg hc, dash_cum l (n + 1), e]
      cases t with
      | nil => rfl
      | cons h2 t =>
        show cumP (n + 1) (h :: h2 :: t) = cumP n ((c :: h) :: h2 :: t)
        rw [cumP, cumP, List.length_cons, show n + 1 + h.length = n + (h.length + 1) by omega]
theorem wordTo_cons (h : Bs) (t : List Bs) (i : Nat) : wordTo (h :: t) (i + 1) = h ++ wordTo t i := by
  unfold wordTo
  rw [List.take_succ_cons, List.flatten_cons]
theorem cum_map : ∀ (t : List Bs) (n : Nat) (h : Bs), cumP n (h :: t) = (List.range t.length).map (fun i => ((n + h.length + (wordTo t i).length : Nat) : Int))
  | [], _, _ => rfl
  | h2 :: t, n, h => by
    rw [cumP, cum_map t, List.length_cons, List.range_succ_eq_map, List.map_cons, List.map_map]
    congr 1
    apply List.map_congr_left
    intro i _
    show _ = ((n + h.length + (wordTo (h2 :: t) (i + 1)).length : Nat) : Int)
    rw [wordTo_cons, List.length_append]
    congr 1
    omega
theorem plTo_map {h : Bs} {t : List Bs} (hh : 0 < h.length) : ∀ j, plTo (h :: t) (j + 1) = (List.range j).map (fun i => ((h.length + (wordTo t i).length : Nat) : Int))
  | 0 => by rw [plTo, if_neg (by unfold wordTo; simp)]; rfl
  | j + 1 => by
    rw [plTo, if_pos (by rw [wordTo_cons, List.length_append]; omega), plTo_map hh j, List.range_succ, List.map_append, wordTo_cons, List.length_append]
    rfl
theorem excP_dash {x : Bs} (h : excB x = true) : excP x = dashP x 0 := by
  obtain ⟨g, t, e⟩ := parts_cons x
  have hp : (parts x).all partB = true := by
    unfold excB at h
    simp only [Bool.and_eq_true] at h
    exact h.2.2
  rw [e] at hp
  simp only [List.all_cons, Bool.and_eq_true] at hp
  have hg : 0 < g.length := by
    have := hp.1
    unfold partB at this
    simp only [Bool.and_eq_true, Bool.not_eq_true'] at this
    cases g with
    | nil => cases this.1
    | cons => simp
  rw [dash_cum, e, cum_map]
  unfold excP
  rw [e, List.length_cons, plTo_map hg]
  simp
theorem dashP_append : ∀ (l m : Bs) (n : Nat), dashP (l ++ m) n = dashP l n ++ dashP m (n + (bare l).length)
  | [], _, _ => by simp [dashP, bare]
  | c :: l, m, n => by
    rw [List.cons_append, dashP, dashP]
    unfold bare
    rw [List.filter_cons]
    by_cases hc : (c == 45) = true
    · rw [if_pos hc, if_pos hc, dashP_append l m n, if_neg (by rw [hc]; decide)]; rfl
    · rw [if_neg hc, if_neg hc, dashP_append l m (n + 1), if_pos (by simpa using hc), List.length_cons]
      congr 2
      show n + 1 + (bare l).length = _
      unfold bare
      omega
end Go.Proofs.YtfblhpkndfbhgaaDoor
