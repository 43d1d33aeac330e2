/-
  What is proved here: what any Insert, Delete or Set leaves of looks; when two lists of looks are the same; that the runs of looks that may be pass Check.
-/
import Derived.Test.YtjakmekifpbldaaWalkP
namespace Go.Proofs.Ytjakmekifpbldaa
open Go.RowKit Go.Shelf

/-- Looks that may be. -/
structure Fine (L : List Ch) (m : Ch) : Prop where
  all : ∀ c ∈ L, mayC c = true
  mind : mayC m = true

theorem sub_mem {L : List Ch} {a b : Nat} {c : Ch} (h : c ∈ sub L a b) : c ∈ L := List.mem_of_mem_take (List.mem_of_mem_drop h)
theorem aheadC_fine {L : List Ch} {m : Ch} (h : Fine L m) (p : Nat) : mayC (aheadC L m p) = true := by
  unfold aheadC
  cases hx : L[p - 1]? with
  | none => exact h.mind
  | some c => exact h.all c (List.mem_of_getElem? hx)
theorem insL_fine {L : List Ch} {m : Ch} (h : Fine L m) (p n : Nat) : Fine (insL L m p n) m := by
  refine ⟨fun c hc => ?_, h.mind⟩
  simp only [insL, List.mem_append, List.mem_replicate] at hc
  rcases hc with (hc | ⟨_, rfl⟩) | hc
  · exact h.all c (sub_mem hc)
  · exact aheadC_fine h p
  · exact h.all c (sub_mem hc)
theorem delL_fine {L : List Ch} {m : Ch} (h : Fine L m) (p n : Nat) : Fine (delL L p n) (delM L m n) := by
  refine ⟨fun c hc => ?_, ?_⟩
  · simp only [delL, List.mem_append] at hc
    rcases hc with hc | hc
    · exact h.all c (sub_mem hc)
    · exact h.all c (sub_mem hc)
  · unfold delM
    split
    · exact aheadC_fine h _
    · exact h.mind
theorem setL_fine {L : List Ch} {m : Ch} (h : Fine L m) (p n : Nat) {c : Ch} (hc : mayC c = true) : Fine (setL L p n c) m := by
  refine ⟨fun d hd => ?_, h.mind⟩
  simp only [setL, List.mem_append, List.mem_replicate] at hd
  rcases hd with (hd | ⟨_, rfl⟩) | hd
  · exact h.all d (sub_mem hd)
  · exact hc
  · exact h.all d (sub_mem hd)

/-- What an edit leaves. -/
def Edited (t : Nat) (k : Nat) (w : World) (e : Ending) (w' : World) : Prop := ∃ c sv L m, e = .returned (.int .i64 c) ∧ LooksAt t sv L m w' ∧ Fine L m ∧ L.length ≤ k ∧ Only t w w'

theorem insert_all (t : Nat) (sv : Value) (L : List Ch) (m : Ch) (a n : Int) (hn : n ≤ 50) (hl : L.length + 50 ≤ 4096) (hf : Fine L m) (w : World) (h : LooksAt t sv L m w) :
    Calls Try.prog 21 #[.pointer (some ⟨t, 0, none⟩), .int .i64 a, .int .i64 n] w (Edited t (L.length + 50) w) := by
  by_cases hx : n < 0 ∨ a < 0 ∨ (L.length : Int) < a
  · refine (insert_range t sv L m a n hx w h).mono ?_
    rintro e w' ⟨rfl, rfl⟩
    exact ⟨_, sv, L, m, rfl, h, hf, by omega, only_of_below (Below.refl _ _)⟩
  · obtain ⟨p, rfl⟩ : ∃ p : Nat, a = p := ⟨a.toNat, by omega⟩
    obtain ⟨q, rfl⟩ : ∃ q : Nat, n = q := ⟨n.toNat, by omega⟩
    refine (insert_ok t sv L m p q (by omega) (by omega) w h).mono ?_
    rintro e w' ⟨sv', rfl, hL, hO, _⟩
    exact ⟨_, sv', _, m, rfl, hL, insL_fine hf p q, by rw [insL_length L m q (by omega)]; omega, hO⟩
theorem delete_all (t : Nat) (sv : Value) (L : List Ch) (m : Ch) (a n : Int) (ha : a ≤ 9223372036854775807) (hf : Fine L m) (w : World) (h : LooksAt t sv L m w) :
    Calls Try.prog 22 #[.pointer (some ⟨t, 0, none⟩), .int .i64 a, .int .i64 n] w (Edited t (L.length + 50) w) := by
  by_cases hx : 0 ≤ a ∧ 0 ≤ n ∧ a + n ≤ L.length
  · obtain ⟨p, rfl⟩ : ∃ p : Nat, a = p := ⟨a.toNat, by omega⟩
    obtain ⟨q, rfl⟩ : ∃ q : Nat, n = q := ⟨n.toNat, by omega⟩
    refine (delete_ok t sv L m p q (by omega) w h).mono ?_
    rintro e w' ⟨sv', rfl, hL, hO, _⟩
    exact ⟨_, sv', _, _, rfl, hL, delL_fine hf p q, by rw [delL_length L (by omega)]; omega, hO⟩
  · refine (delete_range t sv L m a n ha hx w h).mono ?_
    rintro e w' ⟨rfl, rfl⟩
    exact ⟨_, sv, L, m, rfl, h, hf, by omega, only_of_below (Below.refl _ _)⟩
theorem set_all (t : Nat) (sv : Value) (L : List Ch) (m : Ch) (a n : Int) (c : Ch) (ha : a ≤ 9223372036854775807) (hf : Fine L m) (w : World) (h : LooksAt t sv L m w) :
    Calls Try.prog 23 #[.pointer (some ⟨t, 0, none⟩), .int .i64 a, .int .i64 n, .agg #[.int .i64 c.s, .int .i64 c.t, .int .i64 c.k]] w (Edited t (L.length + 50) w) := by
  by_cases hx : 0 ≤ a ∧ 0 ≤ n ∧ a + n ≤ L.length
  · obtain ⟨p, rfl⟩ : ∃ p : Nat, a = p := ⟨a.toNat, by omega⟩
    obtain ⟨q, rfl⟩ : ∃ q : Nat, n = q := ⟨n.toNat, by omega⟩
    cases hc : mayC c with
    | false =>
      refine (set_bad t sv L m p q c hc (by omega) w h).mono ?_
      rintro e w' ⟨rfl, hB⟩
      exact ⟨_, sv, L, m, rfl, h.below hB, hf, by omega, only_of_below hB⟩
    | true =>
      refine (set_ok t sv L m p q c hc (by omega) w h).mono ?_
      rintro e w' ⟨sv', rfl, hL, hO, _⟩
      exact ⟨_, sv', _, _, rfl, hL, setL_fine hf p q hc, by rw [setL_length L c (by omega)]; omega, hO⟩
  · refine (set_range t sv L m a n c ha hx w h).mono ?_
    rintro e w' ⟨rfl, hB⟩
    exact ⟨_, sv, L, m, rfl, h.below hB, hf, by omega, only_of_below hB⟩

theorem left_tot (ps : List Sp) (h : full ps) : leftI (tot ps) (ips ps) = 0 := by
  induction ps with
  | nil => rfl
  | cons p r ih =>
    have h1 := h p (by simp)
    have hr := ih (fun q hq => h q (by simp [hq]))
    show leftI ((p.1 + tot r : Nat) : Int) (((p.1 : Int), p.2) :: ips r) = 0
    rw [leftI, if_neg (by simp; omega)]
    have : (((p.1 + tot r : Nat) : Int) - (p.1 : Int)) = (tot r : Int) := by omega
    rw [this]; exact hr
theorem rle_mem {L : List Ch} {p : Sp} (h : p ∈ rle L) : p.2 ∈ L := by
  have hp := rle_full L p h
  rw [← rle_expand L]
  generalize rle L = R at h
  induction R with
  | nil => cases h
  | cons q r ih =>
    rw [expand]
    rcases List.mem_cons.1 h with rfl | h
    · exact List.mem_append_left _ (List.mem_replicate.2 ⟨by omega, rfl⟩)
    · exact List.mem_append_right _ (ih h)
theorem check_runs {L : List Ch} {m : Ch} (h : Fine L m) : checkI (ips (rle L)) L.length = 0 := by
  unfold checkI
  rw [if_pos]
  · have := left_tot (rle L) (rle_full L)
    rwa [rle_length] at this
  · rw [List.all_eq_true]
    intro q hq
    obtain ⟨p, hp, rfl⟩ := List.mem_map.1 hq
    exact h.all _ (rle_mem hp)

theorem neqCh (w : World) (a b : Ch) : (binOp .neq 23 (.agg #[.int .i64 a.s, .int .i64 a.t, .int .i64 a.k]) (.agg #[.int .i64 b.s, .int .i64 b.t, .int .i64 b.k])).run Try.prog w = .ok (.bool (!decide (a = b))) w := by
  go_simp
  by_cases h : a = b
  · subst h; simp
  · rw [decide_eq_false h]
    split
    · split
      · split
        · exact (h (Ch.ext' (by assumption) (by assumption) (by assumption))).elim
        · rfl
      · rfl
    · rfl

set_option maxRecDepth 100000 in
set_option maxHeartbeats 2000000 in
/-- Two lists that are the same. -/
theorem chars_same (v u : Value) (A : List Ch) (b1 b2 : Nat) (hA : A.length ≤ 4096) (w : World) (hS : CharsAt w b1 v A) (hR : CharsAt w b2 u A) :
    Calls Try.prog 28 #[v, u] w fun e w' => e = .returned (.bool true) ∧ Below w.heap.size w w' := by
  obtain ⟨a, cap, rfl⟩ := hS.form
  obtain ⟨a', cap', rfl⟩ := hR.form
  go_enter Try.func28, Try.ntmps28
  go_wp2_with fail
  go_loopw [5] (fun i wr => ∃ k : Nat, k ≤ A.length ∧ i = .int .i64 k ∧ Below w.heap.size w wr) (fun i _ => A.length - (intOf i).toNat)
  case atStart => exact ⟨0, by omega, rfl, Below.refl _ _⟩
  case round =>
    obtain ⟨k, hk, rfl, hb⟩ := hrel
    by_cases hlt : k < A.length
    · obtain ⟨g, cp, hv, _, c0, c1, c2⟩ := (hS.below hb).cells hlt
      obtain ⟨g', cp', hv', _, d0, d1, d2⟩ := (hR.below hb).cells hlt
      cases hv; cases hv'
      generalize A[k] = c at *
      go_wp2_with fail
      go_quiet (fail)
      go_wp2_with fail
      go_roundw
      case rel => exact ⟨k + 1, by omega, by simp, below_drewN hb _⟩
      case measure => simp [intOf]; omega
    · go_wp2_with fail
      go_ret
      exact ⟨rfl, hb⟩
end Go.Proofs.Ytjakmekifpbldaa
