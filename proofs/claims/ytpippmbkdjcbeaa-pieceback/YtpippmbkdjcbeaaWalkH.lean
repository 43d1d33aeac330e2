/-
  What is proved here: what Delete, Slice and whole answer, and which pieces the text has behind a Delete.
-/
import Derived.Test.YtpippmbkdjcbeaaWalkG
namespace Go.Proofs.Ytpippmbkdjcbeaa
open Go.RowKit Go.Shelf

set_option maxHeartbeats 1000000 in
theorem delete_range (t : Nat) (sv : Value) (rs : List (List UInt8)) (htot : tlen rs ≤ 4096) (hcnt : rs.length ≤ 4096) (w : World) (hT : TextAt t sv rs w) (p n : Int) (hp : p < 0 ∨ n < 0 ∨ (tlen rs : Int) - p < n) (hpb : -9223372036854775808 ≤ p) (hpc : p ≤ 9223372036854775807) :
    Calls Try.prog 10 #[.pointer (some ⟨t, 0, none⟩), .int .i64 p, .int .i64 n] w fun e w' => e = .returned (.int .i64 5) ∧ Below w.heap.size w w' := by
  by_cases h0 : p < 0
  · go_enter Try.func10, Try.ntmps10
    go_wp2_with (first | (go_at_call 21; refine (made_yes t _ hT.c0).mono ?_; rintro e w' ⟨rfl, hww⟩; subst w') | (go_at_call 13; refine (len_any t sv rs htot hcnt _ hT).mono ?_; rintro e w1 ⟨rfl, hb⟩))
    go_ret
    exact ⟨rfl, hb⟩
  · have hd : decide (p < 0) = false := by simpa using h0
    by_cases h1 : n < 0
    · go_enter Try.func10, Try.ntmps10
      go_wp2_with (first | (go_at_call 21; refine (made_yes t _ hT.c0).mono ?_; rintro e w' ⟨rfl, hww⟩; subst w') | (go_at_call 13; refine (len_any t sv rs htot hcnt _ hT).mono ?_; rintro e w1 ⟨rfl, hb⟩))
      go_ret
      exact ⟨rfl, hb⟩
    · have hd1 : decide (n < 0) = false := by simpa using h1
      have h2 : (tlen rs : Int) - p < n := by omega
      go_enter Try.func10, Try.ntmps10
      go_wp2_with (first | (go_at_call 21; refine (made_yes t _ hT.c0).mono ?_; rintro e w' ⟨rfl, hww⟩; subst w') | (go_at_call 13; refine (len_any t sv rs htot hcnt _ hT).mono ?_; rintro e w1 ⟨rfl, hb⟩))
      go_ret
      exact ⟨rfl, hb⟩

/-- The pieces behind a Delete. -/
def delRuns (rs : List (List UInt8)) (k n : Nat) : List (List UInt8) := cutRuns 0 k rs ++ cutRuns (k + n) (tlen rs) rs

set_option maxHeartbeats 1000000 in
set_option maxRecDepth 100000 in
theorem delete_yes (t : Nat) (sv : Value) (rs : List (List UInt8)) (htot : tlen rs ≤ 4096) (hcnt : rs.length ≤ 4096) (w : World) (hT : TextAt t sv rs w) (p n : Int) (h0 : 0 ≤ p) (h1 : 0 ≤ n) (h2 : n ≤ (tlen rs : Int) - p) :
    Calls Try.prog 10 #[.pointer (some ⟨t, 0, none⟩), .int .i64 p, .int .i64 n] w fun e w' => ∃ sv', e = .returned (.int .i64 0) ∧ TextAt t sv' (delRuns rs p.toNat n.toNat) w' ∧ Turns (fun k => k = t) w w' := by
  obtain ⟨k, rfl⟩ : ∃ k : Nat, p = k := ⟨p.toNat, by omega⟩
  obtain ⟨m, rfl⟩ : ∃ m : Nat, n = m := ⟨n.toNat, by omega⟩
  have hd : decide ((k : Int) < 0) = false := by simp
  have hd1 : decide ((m : Int) < 0) = false := by simp
  have hd2 : decide ((tlen rs : Int) - (k : Int) < (m : Int)) = false := by simp; omega
  obtain ⟨i0, hi, hz0, hz1, hz2⟩ := info_parts info55
  have hl1 := cutRuns_len 0 k rs
  have hl2 := cutRuns_len (k + m) (tlen rs) rs
  go_enter Try.func10, Try.ntmps10
  go_wp2_with (first | (go_at_call 21; refine (made_yes t _ hT.c0).mono ?_; rintro e w' ⟨rfl, hww⟩; subst w') | (go_at_call 13; refine (len_any t sv rs htot hcnt _ hT).mono ?_; rintro e w1 ⟨rfl, hb⟩))
  refine (part_int t sv rs 0 k _ _ rfl rfl htot hcnt (by omega) (by omega) _ (hT.below hb)).mono ?_
  rintro e wA ⟨v1, rfl, hrow1, hbA⟩
  have s1 := hb.size
  have s2 := hbA.size
  have hbA' : Below w.heap.size w wA := hb.trans (hbA.mono s1)
  go_wp2_with fail
  refine (part_int t sv rs (k + m) (tlen rs) _ _ (by omega) rfl htot hcnt (by omega) (by omega) _ (hT.below hbA')).mono ?_
  rintro e wB ⟨v2, rfl, hrow2, hbB⟩
  have s3 := hbB.size
  have hbB' : Below w.heap.size w wB := hbA'.trans (hbB.mono (by omega))
  have hrow1B : wB.ownsRow w.heap.size 55 1 v1 (cutRuns 0 k rs).length ((cutRuns 0 k rs).map cellOf) := ownsRow_base (ownsRow_below hrow1 hbB) s1
  have hmap : (delRuns rs k m).map cellOf = (cutRuns 0 k rs).map cellOf ++ (cutRuns (k + m) (tlen rs) rs).map cellOf := by simp [delRuns]
  have hlen : (delRuns rs k m).length = (cutRuns 0 k rs).length + (cutRuns (k + m) (tlen rs) rs).length := by simp [delRuns]
  rcases hrow2.2 with ⟨rfl, hn4⟩ | ⟨g4, c4, cur, rfl, _⟩
  · have hnil : cutRuns (k + m) (tlen rs) rs = [] := List.eq_nil_of_length_eq_zero hn4
    have hown5 : wB.ownsRow w.heap.size 55 1 v1 (delRuns rs k m).length ((delRuns rs k m).map cellOf) := by
      rw [hlen, hmap, hnil]; simpa using hrow1B
    obtain ⟨q1, q2, q3, q4⟩ := text_stored hT hbB' hown5
    obtain ⟨a3, n3, c3, rfl⟩ := ownsRow_slice hrow1B
    have d0 := (hT.below hbB').c0
    go_wp2_with (at_builtin; refine wpList_append_own_none rfl _ _ 23 rfl w.heap.size 55 i0 1 Try.underlying23 hi _ _ _ rfl hrow1B rfl ?_)
    go_wp2
    go_ret
    exact ⟨_, rfl, q3, q4⟩
  · have hcl4 : ∀ j u, ((cutRuns (k + m) (tlen rs) rs).map cellOf)[j]? = some u → wB.cell? ((⟨g4, 0, none⟩ : Addr).add j) = some u := hrow2.cells rfl
    go_wp2_with (at_builtin; refine wpList_append_own _ rfl _ _ 23 rfl w.heap.size 55 i0 _ 1 16 Try.underlying23 hi hz0 hz1 hz2 rfl (by decide) v1 _ _ rfl hrow1B ⟨g4, 0, none⟩ _ c4 _ rfl (by simp) hcl4 (cells_one _) (by unfold maxLen; omega) (by omega) (by omega) ?_)
    intro v5 wE hown5' hgrow5 _
    have hown5 : wE.ownsRow w.heap.size 55 1 v5 (delRuns rs k m).length ((delRuns rs k m).map cellOf) := by
      rw [hlen, hmap]; simpa using hown5'
    have hbE : Below w.heap.size w wE := hbB'.grown hgrow5 (by omega) (fun g hg => (hrow1B.lt g hg).1)
    obtain ⟨q1, q2, q3, q4⟩ := text_stored hT hbE hown5
    obtain ⟨a5, n5, c5, rfl⟩ := ownsRow_slice hown5
    have d0 := (hT.below hbE).c0
    go_wp2
    go_ret
    exact ⟨_, rfl, q3, q4⟩

theorem join_int (t : Nat) (sv : Value) (rs : List (List UInt8)) (f o : Nat) (fi oi : Int) (hfi : fi = f) (hoi : oi = o) (htot : tlen rs ≤ 4096) (hcnt : rs.length ≤ 4096) (hf : f ≤ 4096) (ho : o ≤ 4096) (w : World) (hT : TextAt t sv rs w) :
    Calls Try.prog 22 #[.pointer (some ⟨t, 0, none⟩), .int .i64 fi, .int .i64 oi] w fun e w' => e = .returned (.string ⟨((rs.flatten.take o).drop f).toArray⟩) ∧ Below w.heap.size w w' := by
  subst hfi hoi; exact join_text t sv rs f o htot hcnt (by omega) ho w hT

set_option maxHeartbeats 1000000 in
theorem slice_range (t : Nat) (sv : Value) (rs : List (List UInt8)) (htot : tlen rs ≤ 4096) (hcnt : rs.length ≤ 4096) (w : World) (hT : TextAt t sv rs w) (f o : Int) (hp : f < 0 ∨ o < f ∨ (tlen rs : Int) < o) :
    Calls Try.prog 7 #[.pointer (some ⟨t, 0, none⟩), .int .i64 f, .int .i64 o] w fun e w' => e = .returned (.tuple #[.string ⟨#[]⟩, .int .i64 5]) ∧ Below w.heap.size w w' := by
  by_cases h0 : f < 0
  · go_enter Try.func7, Try.ntmps7
    go_wp2_with (first | (go_at_call 21; refine (made_yes t _ hT.c0).mono ?_; rintro e w' ⟨rfl, hww⟩; subst w') | (go_at_call 13; refine (len_any t sv rs htot hcnt _ hT).mono ?_; rintro e w1 ⟨rfl, hb⟩))
    go_ret2
    exact ⟨rfl, Below.refl _ _⟩
  · have hd : decide (f < 0) = false := by simpa using h0
    by_cases h1 : o < f
    · go_enter Try.func7, Try.ntmps7
      go_wp2_with (first | (go_at_call 21; refine (made_yes t _ hT.c0).mono ?_; rintro e w' ⟨rfl, hww⟩; subst w') | (go_at_call 13; refine (len_any t sv rs htot hcnt _ hT).mono ?_; rintro e w1 ⟨rfl, hb⟩))
      go_ret2
      exact ⟨rfl, Below.refl _ _⟩
    · have hd1 : decide (o < f) = false := by simpa using h1
      have h2 : (tlen rs : Int) < o := by omega
      go_enter Try.func7, Try.ntmps7
      go_wp2_with (first | (go_at_call 21; refine (made_yes t _ hT.c0).mono ?_; rintro e w' ⟨rfl, hww⟩; subst w') | (go_at_call 13; refine (len_any t sv rs htot hcnt _ hT).mono ?_; rintro e w1 ⟨rfl, hb⟩))
      go_ret2
      exact ⟨rfl, hb⟩

set_option maxHeartbeats 1000000 in
theorem slice_yes (t : Nat) (sv : Value) (rs : List (List UInt8)) (htot : tlen rs ≤ 4096) (hcnt : rs.length ≤ 4096) (w : World) (hT : TextAt t sv rs w) (f o : Int) (h0 : 0 ≤ f) (h1 : f ≤ o) (h2 : o ≤ (tlen rs : Int)) :
    Calls Try.prog 7 #[.pointer (some ⟨t, 0, none⟩), .int .i64 f, .int .i64 o] w fun e w' => e = .returned (.tuple #[.string ⟨((rs.flatten.take o.toNat).drop f.toNat).toArray⟩, .int .i64 0]) ∧ Below w.heap.size w w' := by
  have hd : decide (f < 0) = false := by simp; omega
  have hd1 : decide (o < f) = false := by simp; omega
  have hd2 : decide ((tlen rs : Int) < o) = false := by simp; omega
  go_enter Try.func7, Try.ntmps7
  go_wp2_with (first | (go_at_call 21; refine (made_yes t _ hT.c0).mono ?_; rintro e w' ⟨rfl, hww⟩; subst w') | (go_at_call 13; refine (len_any t sv rs htot hcnt _ hT).mono ?_; rintro e w1 ⟨rfl, hb⟩) | (go_at_call 22; refine (join_int t sv rs f.toNat o.toNat f o (by omega) (by omega) htot hcnt (by omega) (by omega) _ (hT.below hb)).mono ?_; rintro e w2 ⟨rfl, hb2⟩))
  go_ret2
  exact ⟨rfl, hb.trans (hb2.mono hb.size)⟩

set_option maxHeartbeats 1000000 in
theorem whole_any (t : Nat) (sv : Value) (rs : List (List UInt8)) (htot : tlen rs ≤ 4096) (hcnt : rs.length ≤ 4096) (w : World) (hT : TextAt t sv rs w) :
    Calls Try.prog 18 #[.pointer (some ⟨t, 0, none⟩)] w fun e w' => e = .returned (.string ⟨rs.flatten.toArray⟩) ∧ Below w.heap.size w w' := by
  go_enter Try.func18, Try.ntmps18
  go_wp2_with (first | (go_at_call 13; refine (len_any t sv rs htot hcnt _ hT).mono ?_; rintro e w1 ⟨rfl, hb⟩) | (go_at_call 7; refine (slice_yes t sv rs htot hcnt _ (hT.below hb) 0 (tlen rs) (by omega) (by omega) (by omega)).mono ?_; rintro e w2 ⟨rfl, hb2⟩))
  go_ret
  refine ⟨?_, hb.trans (hb2.mono hb.size)⟩
  rw [show List.take (tlen rs) rs.flatten = rs.flatten from List.take_of_length_le (Nat.le_refl _)]
  rfl

end Go.Proofs.Ytpippmbkdjcbeaa
