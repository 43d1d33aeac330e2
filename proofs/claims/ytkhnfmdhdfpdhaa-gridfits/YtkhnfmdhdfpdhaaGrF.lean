/-
  What is proved here: how wide a cell's text is, at least and at most.
-/
import Derived.Test.YtkhnfmdhdfpdhaaGrE
namespace Go.Proofs.Ytkhnfmdhdfpdhaa
open Go.RowKit Go.Shelf
attribute [local go_sem] Oper.semAt_some wide_fn wide_depth

theorem rec_cut {W : World} {b o c : Nat} {l : List Ms} (h : RecAt 6 msL W (.slice (some ⟨b, o, none⟩) l.length c) l) {f t : Nat} (hft : f ≤ t) (ht : t ≤ l.length) (hc : l.length ≤ c) : RecAt 6 msL W (slV b o c f t) (cut l f t) := by
  have hl := cut_len (f := f) ht
  obtain ⟨⟨a, cap, e, h2⟩, _⟩ := h
  cases e
  unfold slV
  by_cases hcf : c = f
  · rw [if_pos hcf]
    have h0 : cut l f t = [] := List.eq_nil_of_length_eq_zero (by omega)
    refine ⟨⟨_, _, by rw [hl], .inl h0⟩, fun a n c' e => ?_⟩
    cases e
    omega
  · rw [if_neg hcf]
    refine ⟨⟨_, _, by rw [hl], ?_⟩, fun a n c' e => ?_⟩
    · by_cases h0 : f = t
      · exact .inl (List.eq_nil_of_length_eq_zero (by omega))
      · rcases h2 with h2 | ⟨b', o', e, hb, hcl⟩
        · exfalso; rw [h2] at ht; simp at ht; omega
        · cases e
          refine .inr ⟨b, o + f * 6, rfl, hb, fun i hi j u hu => ?_⟩
          rw [cut_get hi (by omega)] at hu
          have := hcl (f + i) (by omega) j u hu
          rw [show o + f * 6 + i * 6 + j = o + (f + i) * 6 + j by omega]
          exact this
    · cases e
      omega
structure ReadV (Bt : Nat) (v : Value) (l : List Ms) (W : World) : Prop where
  box : W.heap[Bt]? = some (.cells #[v] 101 (0, 0))
  ms : RecAt 6 msL W v l
set_option maxRecDepth 100000 in
set_option maxHeartbeats 2000000 in
theorem words1_none (Bt c : Nat) :
    Gives Try.prog 74 #[.pointer (some ⟨Bt, 0, none⟩)] 1 (fun _ => #[.slice none 0 c]) (ReadV Bt (.slice none 0 c) []) := by
  intro lo J Jx W hJ hJx hRd hY h0
  refine callsIn_wide (n := 0).1 ?_
  refine callsIn_of_wp Try.func74 rfl trivial ?_ rfl
  simp only [Try.ntmps74, List.size_toArray, List.length_cons, List.length_nil, Nat.reduceAdd, Nat.reduceSub, Array.replicate_succ, Array.replicate_zero, List.push_toArray, List.append_toArray, List.nil_append, List.cons_append]
  have hbx0 := (hRd _ _ _ h0).box
  have hc00 : W.cell? ⟨Bt, 0, none⟩ = some (.slice none 0 c) := by rw [Lib.cell_of_heap hbx0]; rfl
  have hYk := hY 0 Noth W (by omega) h0
  have hfin : Hid (∀ W', (J 1 Noth W' ∨ Jx 0 Noth W') → J 1 Noth W' ∨ ∃ i, i < 1 ∧ Jx i Noth W') := fun W' h => by
    rcases h with h | h
    · exact .inl h
    · exact .inr ⟨0, by omega, h⟩
  clear hJ hJx hRd hY hbx0
  obtain ⟨fn, tmps, assign, body, hy, hR⟩ := hYk
  gi_wp2
  gi_loopw [3, 8] (fun p q wr => p = .int .i64 0 ∧ q = .int .i64 0 ∧ wr = W) (fun _ _ _ => 0)
  case atStart => exact ⟨rfl, rfl, rfl⟩
  case round =>
    obtain ⟨rfl, rfl, rfl⟩ := hrel
    gi_wp2_with fail
    refine hR.mono ?_
    rintro e W3 ⟨hk3, (⟨rfl, hJ3⟩ | ⟨rfl, hJx3⟩)⟩
    · gi_wp2
      go_end0
      exact ⟨⟨_, rfl⟩, hfin.out _ (.inl hJ3)⟩
    · gi_wp2
      go_end0
      exact ⟨⟨_, rfl⟩, hfin.out _ (.inr hJx3)⟩

/-- The words of a list, whatever it lies in. -/
theorem words_gives (Bt : Nat) (v : Value) (l : List Ms) (hl : l.length ≤ 200) (hv : (l = [] ∧ ∃ c, v = .slice none 0 c) ∨ ∃ b o c, v = .slice (some ⟨b, o, none⟩) l.length c ∧ l.length ≤ c ∧ c ≤ 9223372036854775807) :
    ∃ enc : Nat → Value, Gives Try.prog 74 #[.pointer (some ⟨Bt, 0, none⟩)] (wds l).length (fun i => #[enc i]) (ReadV Bt v l) ∧
      ∀ (W : World), RecAt 6 msL W v l → ∀ (i : Nat) (hi : i < (wds l).length), RecAt 6 msL W (enc i) (cut l (wds l)[i].1 (wds l)[i].2) := by
  rcases hv with ⟨rfl, c, rfl⟩ | ⟨b, o, c, rfl, h1, h2⟩
  · refine ⟨fun _ => .slice none 0 c, words1_none Bt c, fun W h i hi => ?_⟩
    have : i = 0 := by have : (wds ([] : List Ms)).length = 1 := rfl; omega
    subst this
    exact h
  · refine ⟨fun i => slV b o c ((wds l).getD i (0, 0)).1 ((wds l).getD i (0, 0)).2, ?_, fun W h i hi => ?_⟩
    · intro lo J Jx W hJ hJx hRd hY h0
      exact words1_gives Bt b o c l hl h1 h2 lo J Jx W hJ hJx (fun i X W h => ⟨(hRd i X W h).box, (hRd i X W h).ms⟩) hY h0
    · have e : (wds l).getD i (0, 0) = (wds l)[i] := by rw [List.getD_eq_getElem?_getD, List.getElem?_eq_getElem hi]; rfl
      have hle := wds_le l _ (List.getElem_mem hi)
      show RecAt 6 msL W (slV b o c ((wds l).getD i (0, 0)).1 ((wds l).getD i (0, 0)).2) _
      rw [e]
      exact rec_cut h hle.1 hle.2 h1
/-- The widest of the first words. -/
def wmk (l : List Ms) (k : Nat) : Int := wmx l ((wds l).take k).reverse
theorem wmk_succ {l : List Ms} {k : Nat} (hk : k < (wds l).length) : wmk l (k + 1) = max (wmk l k) (runN l (wds l)[k].1 ((wds l)[k].2 - (wds l)[k].1)) := by
  unfold wmk
  rw [List.take_succ_eq_append_getElem hk, List.reverse_append]; rfl
theorem wmk_all (l : List Ms) : wmk l (wds l).length = exS l := by unfold wmk exS; rw [List.take_length]
theorem cut_nat {l : List Ms} (h : Flat l) {f t : Nat} (hft : f ≤ t) (ht : t ≤ l.length) : natV (cut l f t) 0 (cut l f t).length = runN l f (t - f) := by
  obtain ⟨h1, h2⟩ := flat_cut h hft ht
  rw [(flat_nat h1).2, h2]
theorem steady_box {w₁ : World} {own : Nat → Prop} {B : Nat} (hB : B < w₁.heap.size) (o : Nat → Obj) : Steady (fun i X W => Base w₁ own X W ∧ W.heap[B]? = some (o i)) :=
  fun _ _ _ _ _ hs ht hx => ⟨hs.1.step ht hx, (hs.1.keep ht hB).trans hs.2⟩
theorem rec_any {α : Type} {k : Nat} {f : α → List Value} {X : Nat → Prop} {W W' : World} {v : Value} {rs : List α} (h : RecAt k f W v rs) (ht : Turns X W W') (hg : ∀ g, v.ownBlock = some g → ¬ X g) : RecAt k f W' v rs := by
  obtain ⟨⟨a, cap, rfl, h2⟩, hle⟩ := h
  refine ⟨⟨_, _, rfl, ?_⟩, hle⟩
  rcases h2 with h2 | ⟨b, o', rfl, hlt, hc⟩
  · exact .inl h2
  · refine .inr ⟨b, o', rfl, Nat.lt_of_lt_of_le hlt ht.size, fun i hi j u hu => ?_⟩
    rw [← hc i hi j u hu]
    unfold World.cell?
    rw [ht.block b hlt (hg b rfl)]

end Go.Proofs.Ytkhnfmdhdfpdhaa
