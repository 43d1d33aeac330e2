/-
  What is proved here: the words of a cell, one round a word.
-/
import Derived.Test.YtkhnfmdhdfpdhaaGrC
import Derived.Test.YtkhnfmdhdfpdhaaWalkD
namespace Go.Proofs.Ytkhnfmdhdfpdhaa
open Go.RowKit Go.Shelf
attribute [local go_sem] Oper.semAt_some wide_fn wide_depth

theorem wd_eq (l : List Ms) (k : Nat) : wd l (k + 1) = if (l.getD k ms0).k = 3 then ((wd l k).1 ++ [((wd l k).2, k)], k + 1) else wd l k := rfl
theorem wd_pre (l : List Ms) (k : Nat) : ∀ m, ∃ r, (wd l (k + m)).1 = (wd l k).1 ++ r
  | 0 => ⟨[], by simp⟩
  | m + 1 => by
    obtain ⟨r, hr⟩ := wd_pre l k m
    rw [show k + (m + 1) = k + m + 1 by omega, wd_eq]
    split
    · exact ⟨r ++ [((wd l (k + m)).2, k + m)], by rw [hr, List.append_assoc]⟩
    · exact ⟨r, hr⟩
theorem wds_at {l : List Ms} {k : Nat} (hk : k < l.length) (h3 : (l.getD k ms0).k = 3) : (wd l k).1.length < (wds l).length ∧ (wds l).getD (wd l k).1.length (0, 0) = ((wd l k).2, k) := by
  obtain ⟨r, hr⟩ := wd_pre l (k + 1) (l.length - (k + 1))
  rw [show k + 1 + (l.length - (k + 1)) = l.length by omega] at hr
  have e : (wd l (k + 1)).1 = (wd l k).1 ++ [((wd l k).2, k)] := by
    show (if (l.getD k ms0).k = 3 then _ else _ : List (Nat × Nat) × Nat).1 = _
    rw [if_pos h3]
  have hw : wds l = (wd l k).1 ++ (((wd l k).2, k) :: (r ++ [((wd l l.length).2, l.length)])) := by
    unfold wds
    rw [hr, e]; simp
  refine ⟨by rw [hw]; simp, ?_⟩
  rw [hw, List.getD_eq_getElem?_getD, List.getElem?_append_right (Nat.le_refl _), Nat.sub_self]; rfl
theorem wds_end (l : List Ms) : (wds l).length = (wd l l.length).1.length + 1 ∧ (wds l).getD (wd l l.length).1.length (0, 0) = ((wd l l.length).2, l.length) := by
  unfold wds
  refine ⟨by simp, ?_⟩
  rw [List.getD_eq_getElem?_getD, List.getElem?_append_right (Nat.le_refl _), Nat.sub_self]; rfl
theorem wd_yes {l : List Ms} {k : Nat} (h3 : (l.getD k ms0).k = 3) : (wd l (k + 1)).2 = k + 1 ∧ (wd l (k + 1)).1.length = (wd l k).1.length + 1 := by
  have e : wd l (k + 1) = ((wd l k).1 ++ [((wd l k).2, k)], k + 1) := by
    show (if (l.getD k ms0).k = 3 then _ else _ : List (Nat × Nat) × Nat) = _
    rw [if_pos h3]
  rw [e]
  exact ⟨rfl, by simp⟩
theorem wd_not {l : List Ms} {k : Nat} (h3 : ¬ (l.getD k ms0).k = 3) : wd l (k + 1) = wd l k := by
  show (if (l.getD k ms0).k = 3 then _ else _ : List (Nat × Nat) × Nat) = _
  rw [if_neg h3]

set_option maxHeartbeats 400000 in
theorem words_any (a : Option Addr) (n c : Nat) (w : World) : Calls Try.prog 60 #[.slice a n c] w fun e w' => e = .returned (.func (.func 74) #[] #[.pointer (some ⟨w.heap.size, 0, none⟩)]) ∧ w' = w.alloc (.cells #[.slice a n c] 101) := by
  go_enter Try.func60, Try.ntmps60
  go_wp2
  go_ret
  exact ⟨rfl, rfl⟩

/-- A part of a list of masses, as a value. -/
def slV (b o c : Nat) (f t : Nat) : Value := if c = f then .slice (some ⟨b, o, none⟩) (t - f) 0 else .slice (some ⟨b, o + f * 6, none⟩) (t - f) (c - f)
/-- What the iterator reads. -/
structure ReadW (Bt b o c : Nat) (l : List Ms) (W : World) : Prop where
  box : W.heap[Bt]? = some (.cells #[.slice (some ⟨b, o, none⟩) l.length c] 101 (0, 0))
  ms : RecAt 6 msL W (.slice (some ⟨b, o, none⟩) l.length c) l
def encW (b o c : Nat) (l : List Ms) (i : Nat) : Array Value := #[slV b o c ((wds l).getD i (0, 0)).1 ((wds l).getD i (0, 0)).2]

set_option maxRecDepth 100000 in
set_option maxHeartbeats 2000000 in
theorem words1_gives (Bt b o c : Nat) (l : List Ms) (hl : l.length ≤ 200) (hc : l.length ≤ c) (hcm : c ≤ 9223372036854775807) :
    Gives Try.prog 74 #[.pointer (some ⟨Bt, 0, none⟩)] (wds l).length (encW b o c l) (ReadW Bt b o c l) := by
  intro lo J Jx W hJ hJx hRd hY h0
  refine callsIn_wide (n := 0).1 ?_
  refine callsIn_of_wp Try.func74 rfl trivial ?_ rfl
  simp only [Try.ntmps74, List.size_toArray, List.length_cons, List.length_nil, Nat.reduceAdd, Nat.reduceSub, Array.replicate_succ, Array.replicate_zero, List.push_toArray, List.append_toArray, List.nil_append, List.cons_append]
  have hbx0 := (hRd _ _ _ h0).box
  have hc00 : W.cell? ⟨Bt, 0, none⟩ = some (.slice (some ⟨b, o, none⟩) l.length c) := by rw [Lib.cell_of_heap hbx0]; rfl
  gi_wp2
  gi_loopw [3, 8] (fun p q wr => ∃ (k : Nat) (X : Nat → Prop), k ≤ l.length ∧ q = .int .i64 (k : Nat) ∧ p = .int .i64 ((wd l k).2 : Nat) ∧ J (wd l k).1.length X wr) (fun _ q _ => l.length - (intOf q).toNat)
  case atStart => exact ⟨0, Noth, Nat.zero_le _, rfl, rfl, h0⟩
  case round =>
    obtain ⟨k, X, hk, rfl, rfl, hJs⟩ := hrel
    have hR := hRd _ _ _ hJs
    have hbx := hR.box
    obtain ⟨a', c', e', h2⟩ := hR.ms.ex
    cases e'
    by_cases hlt : k < l.length
    · rcases h2 with h2 | ⟨b', o', e', hbl, hcl⟩
      · rw [h2] at hlt; simp at hlt
      cases e'
      have hlt' : (k : Int) < l.length := by omega
      have c0 : wr.cell? ⟨b, o + k * 6, none⟩ = some (.int .i64 l[k].f) := hcl k hlt 0 _ rfl
      have c1 : wr.cell? ⟨b, o + k * 6 + 1, none⟩ = some (.int .i64 l[k].t) := hcl k hlt 1 _ rfl
      have c2 : wr.cell? ⟨b, o + k * 6 + 2, none⟩ = some (.int .i64 l[k].k) := hcl k hlt 2 _ rfl
      have c3 : wr.cell? ⟨b, o + k * 6 + 3, none⟩ = some (.int .i64 l[k].s) := hcl k hlt 3 _ rfl
      have c4 : wr.cell? ⟨b, o + k * 6 + 4, none⟩ = some (.int .i64 l[k].w) := hcl k hlt 4 _ rfl
      have c5 : wr.cell? ⟨b, o + k * 6 + 5, none⟩ = some (.int .i64 l[k].q) := hcl k hlt 5 _ rfl
      have hkd : (l.getD k ms0).k = l[k].k := by rw [getD_is hlt]
      have hJ' := hJ _ X X wr (wr.alloc (.cells (msL l[k]).toArray 105)) hJs (Turns.alloc _ _ _) (fun _ h => .inl h)
      have hbx' : wr.cell? ⟨Bt, 0, none⟩ = some (.slice (some ⟨b, o, none⟩) l.length c) := by rw [Lib.cell_of_heap hbx]; rfl
      have hbl' := (Array.getElem?_eq_some_iff.1 hbx).1
      unfold msL at hJ'
      clear hcl hR hbx
      generalize l[k].f = x0 at *
      generalize l[k].t = x1 at *
      generalize hx2 : l[k].k = x2 at *
      generalize l[k].s = x3 at *
      generalize l[k].w = x4 at *
      generalize l[k].q = x5 at *
      by_cases h3 : x2 = 3
      · subst h3
        obtain ⟨hi, hw⟩ := wds_at hlt hkd
        obtain ⟨y1, y2⟩ := wd_yes hkd
        have hle := (wd_le l k).1
        have hYk := hY _ _ _ hi hJ'
        unfold encW at hYk
        rw [hw] at hYk
        clear hw
        have hi' : Hid ((wd l k).1.length < (wds l).length) := hi
        clear hi
        generalize hff : (wd l k).2 = f at *
        have hs : slV b o c f k = .slice (some ⟨b, o + f * 6, none⟩) (k - f) (c - f) := if_neg (by omega)
        rw [hs] at hYk
        have hfk : (f : Int) ≤ k := by omega
        have hkc : (k : Int) ≤ c := by omega
        have hfc : ¬ (c : Int) = f := by omega
        have hlk : k ≤ 200 := by omega
        obtain ⟨fn, tmps, assign, body, hy, hR⟩ := hYk
        clear hs hkd
        gi_wp2_with fail
        refine hR.mono ?_
        rintro e W3 ⟨hk3, (⟨rfl, hJ3⟩ | ⟨rfl, hJx3⟩)⟩
        · have hn : Hid (J (wd l (k + 1)).1.length X W3) := (by rw [y2]; exact hJ3 : J (wd l (k + 1)).1.length X W3)
          have hy1 : Hid ((wd l (k + 1)).2 = k + 1) := y1
          clear y1 y2 hJ3 hff
          gi_wp2
          go_roundw
          case rel => exact ⟨k + 1, X, by omega, by simp, by rw [hy1.out]; simp, hn⟩
          case measure => simp [intOf]; omega
        · clear y1 y2 hff
          gi_wp2
          refine bodyPost_ret (results_none rfl _ _ _) rfl ?_
          exact ⟨⟨_, rfl⟩, .inr ⟨_, hi', hJx _ _ _ _ _ hJx3 (Turns.refl _ _) (fun _ h => h.elim)⟩⟩
      · have hn : Hid (J (wd l (k + 1)).1.length X (wr.alloc (.cells #[.int .i64 x0, .int .i64 x1, .int .i64 x2, .int .i64 x3, .int .i64 x4, .int .i64 x5] 105))) := (by rw [wd_not (by rw [hkd]; exact h3)]; exact hJ' : J _ X _)
        have hy1 : Hid ((wd l (k + 1)).2 = (wd l k).2) := (by rw [wd_not (by rw [hkd]; exact h3)] : _ = _)
        have h3' : (x2 == 3) = false := by simpa using h3
        clear hJ' hJs hkd h3
        gi_wp2_with fail
        go_roundw
        case rel => exact ⟨k + 1, X, by omega, by simp, by rw [hy1.out], hn⟩
        case measure => simp [intOf]; omega
    · obtain rfl : k = l.length := by omega
      obtain ⟨n1, n2⟩ := wds_end l
      have hle := (wd_le l l.length).1
      have hYk := hY _ _ _ (show (wd l l.length).1.length < (wds l).length by omega) hJs
      unfold encW at hYk
      rw [n2] at hYk
      have hbx' : wr.cell? ⟨Bt, 0, none⟩ = some (.slice (some ⟨b, o, none⟩) l.length c) := by rw [Lib.cell_of_heap hbx]; rfl
      have hge : ¬ (l.length : Int) < l.length := by omega
      have hfin : Hid (∀ W', (J ((wd l l.length).1.length + 1) X W' ∨ Jx (wd l l.length).1.length X W') → J (wds l).length Noth W' ∨ ∃ i, i < (wds l).length ∧ Jx i Noth W') := fun W' h => by
        rcases h with h | h
        · exact .inl (by rw [n1]; exact hJ _ _ _ _ _ h (Turns.refl _ _) (fun _ h => h.elim))
        · exact .inr ⟨_, by omega, hJx _ _ _ _ _ h (Turns.refl _ _) (fun _ h => h.elim)⟩
      generalize hff : (wd l l.length).2 = f at *
      have hfk : (f : Int) ≤ l.length := by omega
      have hkc : (l.length : Int) ≤ c := by omega
      clear n1 n2 hff hbx hR h2
      by_cases hcf : c = f
      · have hs : slV b o c f l.length = .slice (some ⟨b, o, none⟩) (l.length - f) 0 := if_pos hcf
        have hcf' : (c : Int) = f := by omega
        rw [hs] at hYk
        obtain ⟨fn, tmps, assign, body, hy, hR⟩ := hYk
        clear hs
        gi_wp2_with fail
        refine hR.mono ?_
        rintro e W3 ⟨hk3, (⟨rfl, hJ3⟩ | ⟨rfl, hJx3⟩)⟩
        · gi_wp2
          go_end0
          exact ⟨⟨_, rfl⟩, hfin.out _ (.inl hJ3)⟩
        · gi_wp2
          go_end0
          exact ⟨⟨_, rfl⟩, hfin.out _ (.inr hJx3)⟩
      · have hs : slV b o c f l.length = .slice (some ⟨b, o + f * 6, none⟩) (l.length - f) (c - f) := if_neg hcf
        have hcf' : ¬ (c : Int) = f := by omega
        rw [hs] at hYk
        obtain ⟨fn, tmps, assign, body, hy, hR⟩ := hYk
        clear hs
        gi_wp2_with fail
        refine hR.mono ?_
        rintro e W3 ⟨hk3, (⟨rfl, hJ3⟩ | ⟨rfl, hJx3⟩)⟩
        · gi_wp2
          go_end0
          exact ⟨⟨_, rfl⟩, hfin.out _ (.inl hJ3)⟩
        · gi_wp2
          go_end0
          exact ⟨⟨_, rfl⟩, hfin.out _ (.inr hJx3)⟩
end Go.Proofs.Ytkhnfmdhdfpdhaa
