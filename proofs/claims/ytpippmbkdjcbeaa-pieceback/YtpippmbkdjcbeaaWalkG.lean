/-
  What is proved here: what Insert answers, and which pieces the text has behind it.
-/
import Derived.Test.YtpippmbkdjcbeaaWalkF
import Derived.Laws.AppendOwnNone
namespace Go.Proofs.Ytpippmbkdjcbeaa
open Go.RowKit Go.Shelf

/-- How many bytes a text has. -/
def tlen (rs : List (List UInt8)) : Nat := rs.flatten.length

theorem len_any (t : Nat) (sv : Value) (rs : List (List UInt8)) (htot : tlen rs ≤ 4096) (hcnt : rs.length ≤ 4096) (w : World) (hT : TextAt t sv rs w) :
    Calls Try.prog 13 #[.pointer (some ⟨t, 0, none⟩)] w fun e w' => e = .returned (.int .i64 (tlen rs)) ∧ Below w.heap.size w w' := len_text t sv rs htot hcnt w hT

theorem part_int (t : Nat) (sv : Value) (rs : List (List UInt8)) (f o : Nat) (fi oi : Int) (hfi : fi = f) (hoi : oi = o) (htot : tlen rs ≤ 4096) (hcnt : rs.length ≤ 4096) (hf : f ≤ 4096) (ho : o ≤ 4096) (w : World) (hT : TextAt t sv rs w) :
    Calls Try.prog 25 #[.pointer (some ⟨t, 0, none⟩), .int .i64 fi, .int .i64 oi] w fun e w' => ∃ v, e = .returned v ∧ w'.ownsRow w.heap.size 55 1 v (cutRuns f o rs).length ((cutRuns f o rs).map cellOf) ∧ Below w.heap.size w w' := by
  subst hfi hoi; exact part_text t sv rs f o htot hcnt (by omega) ho w hT

theorem TextAt.below {t : Nat} {sv : Value} {rs : List (List UInt8)} {W W' : World} (h : TextAt t sv rs W) (hb : Below W.heap.size W W') : TextAt t sv rs W' := h.turns (Turns.of_below hb) (fun _ h => h.elim)
theorem TextAt.c0 {t : Nat} {sv : Value} {rs : List (List UInt8)} {W : World} (h : TextAt t sv rs W) : W.cell? ⟨t, 0, none⟩ = some (.pointer (some ⟨t, 0, none⟩)) := by rw [Lib.cell_of_heap h.text]; rfl

theorem ownsRow_below {W W' : World} {base : Nat} {e : TypeId} {size : Nat} {v : Value} {n : Nat} {xs : List Value} (h : W.ownsRow base e size v n xs) (hb : Below W.heap.size W W') : W'.ownsRow base e size v n xs :=
  ownsRow_turns h (Turns.of_below hb) (fun _ _ h => h.elim)

theorem text_stored {t : Nat} {sv v : Value} {rs rs' : List (List UInt8)} {w W : World} (hT : TextAt t sv rs w) (hb : Below w.heap.size w W) (hown : W.ownsRow w.heap.size 55 1 v rs'.length (rs'.map cellOf)) :
    W.cell? ⟨t, 1, none⟩ = some sv ∧ W.frozen? ⟨t, 1, none⟩ = false ∧ TextAt t v rs' (W.setCell ⟨t, 1, none⟩ v) ∧ Turns (fun k => k = t) w (W.setCell ⟨t, 1, none⟩ v) := by
  have hT' := hT.below hb
  have hlt := hT.lt
  refine ⟨by rw [Lib.cell_of_heap hT'.text]; rfl, Lib.frozen_of_heap hT'.text 1, ⟨by simp [World.setCell, Array.getElem?_modify, hT'.text], ?_⟩, ?_⟩
  · exact ownsRow_turns (ownsRow_base hown (Nat.zero_le _)) (Turns.setCell (X := fun k => k = t) W rfl _) (fun g hg e => by have := (hown.lt g hg).1; omega)
  · exact ((Turns.of_below hb).mono (fun _ h => h.elim)).trans (Turns.setCell (X := fun k => k = t) W rfl _)

set_option maxHeartbeats 1000000 in
theorem insert_range (t : Nat) (sv : Value) (rs : List (List UInt8)) (htot : tlen rs ≤ 4096) (hcnt : rs.length ≤ 4096) (w : World) (hT : TextAt t sv rs w) (p : Int) (s : ByteArray) (hp : p < 0 ∨ (tlen rs : Int) < p) :
    Calls Try.prog 9 #[.pointer (some ⟨t, 0, none⟩), .int .i64 p, .string s] w fun e w' => e = .returned (.int .i64 5) ∧ Below w.heap.size w w' := by
  by_cases h0 : p < 0
  · go_enter Try.func9, Try.ntmps9
    go_wp2_with (first | (go_at_call 21; refine (made_yes t _ hT.c0).mono ?_; rintro e w' ⟨rfl, hww⟩; subst w') | (go_at_call 13; refine (len_any t sv rs htot hcnt _ hT).mono ?_; rintro e w1 ⟨rfl, hb⟩))
    go_ret
    exact ⟨rfl, hb⟩
  · have h1 : (tlen rs : Int) < p := by omega
    have hd : decide (p < 0) = false := by simpa using h0
    go_enter Try.func9, Try.ntmps9
    go_wp2_with (first | (go_at_call 21; refine (made_yes t _ hT.c0).mono ?_; rintro e w' ⟨rfl, hww⟩; subst w') | (go_at_call 13; refine (len_any t sv rs htot hcnt _ hT).mono ?_; rintro e w1 ⟨rfl, hb⟩))
    go_ret
    exact ⟨rfl, hb⟩

set_option maxHeartbeats 1000000 in
theorem insert_refused (t : Nat) (sv : Value) (rs : List (List UInt8)) (htot : tlen rs ≤ 4096) (hcnt : rs.length ≤ 4096) (w : World) (hT : TextAt t sv rs w) (p : Int) (s : ByteArray) (hs : s.size ≤ maxLen) (h0 : 0 ≤ p) (h1 : p ≤ (tlen rs : Int)) (hr : refuseI s.data.toList (tlen rs) ≠ 0) :
    Calls Try.prog 9 #[.pointer (some ⟨t, 0, none⟩), .int .i64 p, .string s] w fun e w' => e = .returned (.int .i64 (refuseI s.data.toList (tlen rs))) ∧ Below w.heap.size w w' := by
  have hrb : (refuseI s.data.toList (tlen rs) == 0) = false := beq_eq_false_iff_ne.2 hr
  have hd : decide (p < 0) = false := by simp; omega
  have hrn := refuse_any s hs _ htot
  go_enter Try.func9, Try.ntmps9
  go_wp2_with (first | (go_at_call 21; refine (made_yes t _ hT.c0).mono ?_; rintro e w' ⟨rfl, hww⟩; subst w') | (go_at_call 13; refine (len_any t sv rs htot hcnt _ hT).mono ?_; rintro e w1 ⟨rfl, hb⟩) | (go_at_call 24; refine (hrn _).mono ?_; rintro e w2 ⟨rfl, hww⟩; subst w2))
  go_ret
  exact ⟨rfl, hb⟩

set_option maxHeartbeats 1000000 in
theorem insert_none (t : Nat) (sv : Value) (rs : List (List UInt8)) (htot : tlen rs ≤ 4096) (hcnt : rs.length ≤ 4096) (w : World) (hT : TextAt t sv rs w) (p : Int) (s : ByteArray) (hs : s.size ≤ maxLen) (h0 : 0 ≤ p) (h1 : p ≤ (tlen rs : Int)) (he : s.data.toList = []) :
    Calls Try.prog 9 #[.pointer (some ⟨t, 0, none⟩), .int .i64 p, .string s] w fun e w' => e = .returned (.int .i64 0) ∧ Below w.heap.size w w' := by
  have hd : decide (p < 0) = false := by simp; omega
  have hne : s.toList.isEmpty = true := by rw [empty_iff]; exact decide_eq_true he
  have hrn := refuse_any s hs _ htot
  have hr0 : refuseI s.data.toList (tlen rs) = 0 := by rw [he]; unfold refuseI; rw [if_neg (by decide), if_neg (by simp)]
  rw [hr0] at hrn
  go_enter Try.func9, Try.ntmps9
  go_wp2_with (first | (go_at_call 21; refine (made_yes t _ hT.c0).mono ?_; rintro e w' ⟨rfl, hww⟩; subst w') | (go_at_call 13; refine (len_any t sv rs htot hcnt _ hT).mono ?_; rintro e w1 ⟨rfl, hb⟩) | (go_at_call 24; refine (hrn _).mono ?_; rintro e w2 ⟨rfl, hww⟩; subst w2))
  go_ret
  exact ⟨rfl, hb⟩

/-- The pieces behind an Insert. -/
def insRuns (rs : List (List UInt8)) (k : Nat) (s : List UInt8) : List (List UInt8) := cutRuns 0 k rs ++ [s] ++ cutRuns k (tlen rs) rs

theorem cutRuns_len (f o : Nat) (rs : List (List UInt8)) : (cutRuns f o rs).length ≤ tlen rs := by
  have := parts_len f o rs
  unfold tlen
  simpa [cutRuns] using this

theorem cells_one (l : List (List UInt8)) : ∀ u ∈ l.map cellOf, u.oneCell' = true := by
  intro u hu
  obtain ⟨x, _, rfl⟩ := List.mem_map.1 hu
  rfl

set_option maxHeartbeats 1000000 in
set_option maxRecDepth 100000 in
theorem insert_yes (t : Nat) (sv : Value) (rs : List (List UInt8)) (htot : tlen rs ≤ 4096) (hcnt : rs.length ≤ 4096) (w : World) (hT : TextAt t sv rs w) (p : Int) (s : ByteArray) (hs : s.size ≤ maxLen) (h0 : 0 ≤ p) (h1 : p ≤ (tlen rs : Int)) (hr0 : refuseI s.data.toList (tlen rs) = 0) (he : s.data.toList ≠ []) (hsz : s.size ≤ 4096) :
    Calls Try.prog 9 #[.pointer (some ⟨t, 0, none⟩), .int .i64 p, .string s] w fun e w' => ∃ sv', e = .returned (.int .i64 0) ∧ TextAt t sv' (insRuns rs p.toNat s.data.toList) w' ∧ Turns (fun k => k = t) w w' := by
  obtain ⟨k, rfl⟩ : ∃ k : Nat, p = k := ⟨p.toNat, by omega⟩
  have hk : k ≤ tlen rs := by omega
  have hd : decide ((k : Int) < 0) = false := by simp
  have hne : s.toList.isEmpty = false := by rw [empty_iff]; exact decide_eq_false he
  have hro : runsOf s.data.toList = [s.data.toList] := if_neg he
  have hrn := refuse_any s hs _ htot
  rw [hr0] at hrn
  obtain ⟨i0, hi, hz0, hz1, hz2⟩ := info_parts info55
  have hl1 := cutRuns_len 0 k rs
  have hl2 := cutRuns_len k (tlen rs) rs
  go_enter Try.func9, Try.ntmps9
  go_wp2_with (first | (go_at_call 21; refine (made_yes t _ hT.c0).mono ?_; rintro e w' ⟨rfl, hww⟩; subst w') | (go_at_call 13; refine (len_any t sv rs htot hcnt _ hT).mono ?_; rintro e w1 ⟨rfl, hb⟩) | (go_at_call 24; refine (hrn _).mono ?_; rintro e w2 ⟨rfl, hww⟩; subst w2))
  refine (part_int t sv rs 0 k _ _ rfl rfl htot hcnt (by omega) (by omega) _ (hT.below hb)).mono ?_
  rintro e wA ⟨v1, rfl, hrow1, hbA⟩
  go_wp2_with fail
  refine (newRun_any s hsz _).mono ?_
  rintro e wB ⟨v2, rfl, hrow2, hbB⟩
  have hrow2' : wB.ownsRow wA.heap.size 55 1 v2 (0 + 1) [cellOf s.data.toList] := by rw [hro] at hrow2; exact hrow2
  obtain ⟨g2, c2, rfl⟩ := ownsRow_succ hrow2'
  have s1 := hb.size
  have s2 := hbA.size
  have s3 := hbB.size
  have hrow1B : wB.ownsRow w.heap.size 55 1 v1 (cutRuns 0 k rs).length ((cutRuns 0 k rs).map cellOf) := ownsRow_base (ownsRow_below hrow1 hbB) s1
  have hcl : ∀ j u, [cellOf s.data.toList][j]? = some u → wB.cell? ((⟨g2, 0, none⟩ : Addr).add j) = some u := hrow2'.cells rfl
  go_wp2_with (at_builtin; refine wpList_append_own _ rfl _ _ 23 rfl w.heap.size 55 i0 _ 1 16 Try.underlying23 hi hz0 hz1 hz2 rfl (by decide) v1 _ _ rfl hrow1B ⟨g2, 0, none⟩ 1 c2 [cellOf s.data.toList] rfl rfl hcl (cells_one [s.data.toList]) (by unfold maxLen; omega) (by omega) (by omega) ?_)
  intro v3 wC hown3 hgrow3 _
  have hbB' : Below w.heap.size w wB := (hb.trans (hbA.mono s1)).trans (hbB.mono (by omega))
  have hbC : Below w.heap.size w wC := hbB'.grown hgrow3 (by omega) (fun g hg => (hrow1B.lt g hg).1)
  have s4 := hgrow3.size
  go_wp2_with fail
  refine (part_int t sv rs k (tlen rs) _ _ rfl rfl htot hcnt (by omega) (by omega) _ (hT.below hbC)).mono ?_
  rintro e wD ⟨v4, rfl, hrow4, hbD⟩
  have s5 := hbD.size
  have hbD' : Below w.heap.size w wD := hbC.trans (hbD.mono (by omega))
  have hown3D := ownsRow_below hown3 hbD
  have hmap : (insRuns rs k s.data.toList).map cellOf = (cutRuns 0 k rs).map cellOf ++ [cellOf s.data.toList] ++ (cutRuns k (tlen rs) rs).map cellOf := by simp [insRuns]
  have hlen : (insRuns rs k s.data.toList).length = (cutRuns 0 k rs).length + 1 + (cutRuns k (tlen rs) rs).length := by simp [insRuns]; omega
  rcases hrow4.2 with ⟨rfl, hn4⟩ | ⟨g4, c4, cur, rfl, _⟩
  · have hnil : cutRuns k (tlen rs) rs = [] := List.eq_nil_of_length_eq_zero hn4
    have hown5 : wD.ownsRow w.heap.size 55 1 v3 (insRuns rs k s.data.toList).length ((insRuns rs k s.data.toList).map cellOf) := by
      rw [hlen, hmap, hnil]; simpa using hown3D
    obtain ⟨q1, q2, q3, q4⟩ := text_stored hT hbD' hown5
    obtain ⟨a3, n3, c3, rfl⟩ := ownsRow_slice hown3
    have d0 := (hT.below hbD').c0
    go_wp2_with (at_builtin; refine wpList_append_own_none rfl _ _ 23 rfl w.heap.size 55 i0 1 Try.underlying23 hi _ _ _ rfl hown3D rfl ?_)
    go_wp2
    go_ret
    exact ⟨_, rfl, q3, q4⟩
  · have hcl4 : ∀ j u, ((cutRuns k (tlen rs) rs).map cellOf)[j]? = some u → wD.cell? ((⟨g4, 0, none⟩ : Addr).add j) = some u := hrow4.cells rfl
    go_wp2_with (at_builtin; refine wpList_append_own _ rfl _ _ 23 rfl w.heap.size 55 i0 _ 1 16 Try.underlying23 hi hz0 hz1 hz2 rfl (by decide) v3 _ _ rfl hown3D ⟨g4, 0, none⟩ _ c4 _ rfl (by simp) hcl4 (cells_one _) (by unfold maxLen; omega) (by omega) (by omega) ?_)
    intro v5 wE hown5' hgrow5 _
    have hown5 : wE.ownsRow w.heap.size 55 1 v5 (insRuns rs k s.data.toList).length ((insRuns rs k s.data.toList).map cellOf) := by
      rw [hlen, hmap]; simpa using hown5'
    have hbE : Below w.heap.size w wE := hbD'.grown hgrow5 (by omega) (fun g hg => (hown3D.lt g hg).1)
    obtain ⟨q1, q2, q3, q4⟩ := text_stored hT hbE hown5
    obtain ⟨a5, n5, c5, rfl⟩ := ownsRow_slice hown5
    have d0 := (hT.below hbE).c0
    go_wp2
    go_ret
    exact ⟨_, rfl, q3, q4⟩

end Go.Proofs.Ytpippmbkdjcbeaa
