/-
  What is proved here: what any Insert and any Delete leave of a text: its bytes, how many pieces, and that it is one that may be.
-/
import Derived.Test.YtpippmbkdjcbeaaWalkI
namespace Go.Proofs.Ytpippmbkdjcbeaa
open Go.RowKit Go.Shelf

/-- Pieces that may be a text's. -/
structure Good (rs : List (List UInt8)) : Prop where
  full : ∀ r ∈ rs, r ≠ []
  tot : tlen rs ≤ 4096

theorem Good.cnt {rs : List (List UInt8)} (h : Good rs) : rs.length ≤ 4096 := Nat.le_trans (len_le_flatten rs h.full) h.tot
theorem Good.le {rs : List (List UInt8)} (h : Good rs) : rs.length ≤ tlen rs := len_le_flatten rs h.full

theorem parts_le (f o : Nat) : ∀ (rs : List (List UInt8)) (s : Nat), (parts s f o rs).length ≤ rs.length
  | [], s => by simp [parts]
  | r :: rs, s => by
    have := parts_le f o rs (s + r.length)
    simp only [parts, List.length_append, List.length_cons]
    split <;> simp <;> omega

theorem parts_none (k : Nat) : ∀ (rs : List (List UInt8)) (s : Nat), k ≤ s → parts s 0 k rs = []
  | [], s, _ => by simp [parts]
  | r :: rs, s, h => by
    simp only [parts, parts_none k rs (s + r.length) (by omega), List.append_nil]
    rw [if_neg]
    simp only [hasB, decide_eq_true_eq]
    omega

theorem parts_two (k k' o : Nat) (hk : k ≤ k') : ∀ (rs : List (List UInt8)) (s : Nat), (parts s 0 k rs).length + (parts s k' o rs).length ≤ rs.length + 1
  | [], s => by simp [parts]
  | r :: rs, s => by
    have ih := parts_two k k' o hk rs (s + r.length)
    have l1 := parts_le k' o rs (s + r.length)
    by_cases h1 : hasB s 0 k r = true
    · by_cases h2 : hasB s k' o r = true
      · have h2' : k' - s < min (o - s) r.length := by simpa [hasB] using h2
        have hn := parts_none k rs (s + r.length) (by omega)
        simp only [parts, h1, h2, if_true, List.length_append, List.length_cons, List.length_nil, hn]
        omega
      · simp only [parts, h1, h2, if_true, List.length_append, List.length_cons, List.length_nil, if_false, Bool.false_eq_true]
        omega
    · by_cases h2 : hasB s k' o r = true
      · simp only [parts, h1, h2, if_true, List.length_append, List.length_cons, List.length_nil, if_false, Bool.false_eq_true]
        omega
      · simp only [parts, h1, h2, List.length_append, List.length_cons, List.length_nil, if_false, Bool.false_eq_true]
        omega

theorem cut_two (rs : List (List UInt8)) (k k' : Nat) (hk : k ≤ k') : (cutRuns 0 k rs).length + (cutRuns k' (tlen rs) rs).length ≤ rs.length + 1 := by
  have := parts_two k k' (tlen rs) hk rs 0
  simpa [cutRuns] using this

theorem ins_flat (rs : List (List UInt8)) (k : Nat) (s : List UInt8) : (insRuns rs k s).flatten = rs.flatten.take k ++ s ++ rs.flatten.drop k := by
  simp only [insRuns, List.flatten_append, cutRuns_flatten, List.drop_zero, List.flatten_cons, List.flatten_nil, List.append_nil]
  rw [show List.take (tlen rs) rs.flatten = rs.flatten from List.take_of_length_le (Nat.le_refl _)]
theorem del_flat (rs : List (List UInt8)) (k n : Nat) : (delRuns rs k n).flatten = rs.flatten.take k ++ rs.flatten.drop (k + n) := by
  simp only [delRuns, List.flatten_append, cutRuns_flatten, List.drop_zero]
  rw [show List.take (tlen rs) rs.flatten = rs.flatten from List.take_of_length_le (Nat.le_refl _)]

theorem ins_good {rs : List (List UInt8)} (k : Nat) (s : List UInt8) (hs : s ≠ []) (hl : tlen rs + s.length ≤ 4096) : Good (insRuns rs k s) := by
  refine ⟨?_, ?_⟩
  · intro r hr
    simp only [insRuns, List.mem_append, List.mem_singleton] at hr
    rcases hr with (hr | hr) | hr
    · exact cutRuns_full _ _ _ r hr
    · rw [hr]; exact hs
    · exact cutRuns_full _ _ _ r hr
  · unfold tlen at hl ⊢
    rw [ins_flat]
    simp only [List.length_append, List.length_take, List.length_drop]
    omega
theorem del_good {rs : List (List UInt8)} (h : Good rs) (k n : Nat) : Good (delRuns rs k n) := by
  refine ⟨?_, ?_⟩
  · intro r hr
    simp only [delRuns, List.mem_append] at hr
    rcases hr with hr | hr
    · exact cutRuns_full _ _ _ r hr
    · exact cutRuns_full _ _ _ r hr
  · have := h.tot
    unfold tlen at this ⊢
    rw [del_flat]
    simp only [List.length_append, List.length_take, List.length_drop]
    omega

theorem insert_all (t : Nat) (sv : Value) (rs : List (List UInt8)) (hg : Good rs) (w : World) (hT : TextAt t sv rs w) (p : Int) (s : ByteArray) (hs : s.size ≤ maxLen) :
    Calls Try.prog 9 #[.pointer (some ⟨t, 0, none⟩), .int .i64 p, .string s] w fun e w' => ∃ (c : Int) (sv' : Value) (rs' : List (List UInt8)), e = .returned (.int .i64 c) ∧ TextAt t sv' rs' w' ∧ Good rs' ∧ Turns (fun k => k = t) w w' ∧ rs'.length ≤ rs.length + 2 ∧
      ((c ≠ 0 ∧ rs'.flatten = rs.flatten) ∨ (c = 0 ∧ 0 ≤ p ∧ p ≤ (tlen rs : Int) ∧ s.size ≤ 4096 ∧ rs'.flatten = rs.flatten.take p.toNat ++ s.data.toList ++ rs.flatten.drop p.toNat)) := by
  have hlen : s.data.toList.length = s.size := rfl
  by_cases hp : p < 0 ∨ (tlen rs : Int) < p
  · refine (insert_range t sv rs hg.tot hg.cnt w hT p s hp).mono ?_
    rintro e w' ⟨rfl, hb⟩
    exact ⟨5, sv, rs, rfl, hT.below hb, hg, (Turns.of_below hb).mono (fun _ h => h.elim), by omega, .inl ⟨by decide, rfl⟩⟩
  · by_cases hr : refuseI s.data.toList (tlen rs) = 0
    · have hsz : s.size ≤ 4096 - tlen rs := by
        unfold refuseI at hr
        split at hr
        · omega
        · split at hr
          · omega
          · omega
      by_cases he : s.data.toList = []
      · refine (insert_none t sv rs hg.tot hg.cnt w hT p s hs (by omega) (by omega) he).mono ?_
        rintro e w' ⟨rfl, hb⟩
        refine ⟨0, sv, rs, rfl, hT.below hb, hg, (Turns.of_below hb).mono (fun _ h => h.elim), by omega, .inr ⟨rfl, by omega, by omega, by omega, ?_⟩⟩
        rw [he]; simp
      · refine (insert_yes t sv rs hg.tot hg.cnt w hT p s hs (by omega) (by omega) hr he (by omega)).mono ?_
        rintro e w' ⟨sv', rfl, hT', ht⟩
        have htt := hg.tot
        refine ⟨0, sv', _, rfl, hT', ins_good _ _ he (by omega), ht, ?_, .inr ⟨rfl, by omega, by omega, by omega, ins_flat _ _ _⟩⟩
        have := cut_two rs p.toNat p.toNat (Nat.le_refl _)
        simp only [insRuns, List.length_append, List.length_cons, List.length_nil]
        omega
    · refine (insert_refused t sv rs hg.tot hg.cnt w hT p s hs (by omega) (by omega) hr).mono ?_
      rintro e w' ⟨rfl, hb⟩
      exact ⟨_, sv, rs, rfl, hT.below hb, hg, (Turns.of_below hb).mono (fun _ h => h.elim), by omega, .inl ⟨hr, rfl⟩⟩

theorem delete_all (t : Nat) (sv : Value) (rs : List (List UInt8)) (hg : Good rs) (w : World) (hT : TextAt t sv rs w) (p n : Int) (hp0 : -9223372036854775808 ≤ p) (hp1 : p ≤ 9223372036854775807) :
    Calls Try.prog 10 #[.pointer (some ⟨t, 0, none⟩), .int .i64 p, .int .i64 n] w fun e w' => ∃ (c : Int) (sv' : Value) (rs' : List (List UInt8)), e = .returned (.int .i64 c) ∧ TextAt t sv' rs' w' ∧ Good rs' ∧ Turns (fun k => k = t) w w' ∧ rs'.length ≤ rs.length + 2 := by
  by_cases hp : p < 0 ∨ n < 0 ∨ (tlen rs : Int) - p < n
  · refine (delete_range t sv rs hg.tot hg.cnt w hT p n hp hp0 hp1).mono ?_
    rintro e w' ⟨rfl, hb⟩
    exact ⟨5, sv, rs, rfl, hT.below hb, hg, (Turns.of_below hb).mono (fun _ h => h.elim), by omega⟩
  · refine (delete_yes t sv rs hg.tot hg.cnt w hT p n (by omega) (by omega) (by omega)).mono ?_
    rintro e w' ⟨sv', rfl, hT', ht⟩
    refine ⟨0, sv', _, rfl, hT', del_good hg _ _, ht, ?_⟩
    have := cut_two rs p.toNat (p.toNat + n.toNat) (by omega)
    simp only [delRuns, List.length_append]
    omega

end Go.Proofs.Ytpippmbkdjcbeaa
