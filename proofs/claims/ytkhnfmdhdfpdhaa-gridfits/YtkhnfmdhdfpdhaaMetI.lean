/-
  What is proved here: whether spans are as much as so many bytes, and look as characters may; whether a label or a mark may stand.
-/
import Derived.Test.YtkhnfmdhdfpdhaaMetH
namespace Go.Proofs.Ytkhnfmdhdfpdhaa
open Go.RowKit Go.Shelf

/-- A span. -/
structure Sp where
  n : Int
  s : Int
  t : Int
  k : Int
def spL (r : Sp) : List Value := [.int .i64 r.n, .int .i64 r.s, .int .i64 r.t, .int .i64 r.k]
/-- May a look be? -/
def chB (r : Sp) : Bool := decide ((0 ≤ r.s ∧ r.s ≤ 64) ∧ (0 ≤ r.t ∧ r.t ≤ 15) ∧ (0 ≤ r.k ∧ r.k ≤ 1))
/-- May spans be, of so many bytes? -/
def spB : List Sp → Int → Bool
  | [], n => decide (n = 0)
  | r :: l, n => if 1 ≤ r.n ∧ r.n ≤ n ∧ chB r = true then spB l (n - r.n) else false
theorem spB_step {l : List Sp} {k : Nat} (h : k < l.length) {n : Int} (h1 : 1 ≤ l[k].n ∧ l[k].n ≤ n ∧ chB l[k] = true) : spB (l.drop k) n = spB (l.drop (k + 1)) (n - l[k].n) := by
  rw [List.drop_eq_getElem_cons h, spB, if_pos h1]
theorem spB_no {l : List Sp} {k : Nat} (h : k < l.length) {n : Int} (h1 : ¬ (1 ≤ l[k].n ∧ l[k].n ≤ n ∧ chB l[k] = true)) : spB (l.drop k) n = false := by
  rw [List.drop_eq_getElem_cons h, spB, if_neg h1]
theorem spB_end (l : List Sp) (n : Int) : spB (l.drop l.length) n = decide (n = 0) := by simp [spB]

def sp4 (r : Sp) (n : Int) : List Bd := [(r.n, 1, n), (r.s, 0, 64), (r.t, 0, 15), (r.k, 0, 1)]
theorem sp4_keep (r : Sp) (n : Int) : keepB (sp4 r n) = decide (1 ≤ r.n ∧ r.n ≤ n ∧ chB r = true) := by
  unfold keepB sp4 bdB chB
  rw [Bool.eq_iff_iff]
  simp only [List.all_cons, List.all_nil, Bool.and_true, Bool.and_eq_true, decide_eq_true_eq]
  constructor
  · rintro ⟨⟨a, b⟩, c, d, e⟩; exact ⟨a, b, c, d, e⟩
  · rintro ⟨a, b, c, d, e⟩; exact ⟨⟨a, b⟩, c, d, e⟩

set_option maxRecDepth 100000 in
set_option maxHeartbeats 2000000 in
theorem maySpan_any (v : Value) (l : List Sp) (n : Nat) (hn : n ≤ 4096) (hl : l.length ≤ 9223372036854775807) (w : World) (hS : RecAt 4 spL w v l) :
    Calls Try.prog 86 #[v, .int .i64 n] w fun e w' => e = .returned (.bool (spB l n)) ∧ Below w.heap.size w w' := by
  obtain ⟨a, cap, rfl, h2⟩ := hS.ex
  clear hS
  have hr : Hid (∀ (W : World) (m : Nat) (r : Sp) (x : Int), W.heap.size = m → Calls Try.prog 87 #[.slice (some ⟨m, 0, none⟩) 4 4] (W.alloc (.cells #[.int .i64 r.n, .int .i64 1, .int .i64 x, .int .i64 r.s, .int .i64 0, .int .i64 64, .int .i64 r.t, .int .i64 0, .int .i64 15, .int .i64 r.k, .int .i64 0, .int .i64 1] 152)) fun e w' => e = .returned (.bool (decide (1 ≤ r.n ∧ r.n ≤ x ∧ chB r = true))) ∧ Below W.heap.size W w') := fun W m r x hm => by
    subst hm
    have h := keep_any _ (sp4 r x) (by show 4 ≤ 100; omega) _ (rec_new (k := 3) bdL_len W 152 (sp4 r x))
    rw [sp4_keep] at h
    refine h.mono ?_
    rintro e w' ⟨rfl, hb⟩
    exact ⟨rfl, ((Below.refl _ W).alloc (Nat.le_refl _) _).trans (hb.mono (by simp))⟩
  have hw0 : Hid (spB l n = spB (l.drop 0) n) := rfl
  generalize hz : spB l n = z at hw0 ⊢
  clear hz
  go_enter Try.func86, Try.ntmps86
  go_wp2
  go_loopw [1, 9] (fun q i wr => ∃ (k : Nat) (x : Int), k ≤ l.length ∧ i = .int .i64 k ∧ q = .int .i64 x ∧ 0 ≤ x ∧ x ≤ 4096 ∧ Below w.heap.size w wr ∧ Hid (z = spB (l.drop k) x)) (fun _ i _ => l.length - (intOf i).toNat)
  case atStart => exact ⟨0, n, by omega, rfl, rfl, by omega, by omega, Below.refl _ _, hw0⟩
  case round =>
    obtain ⟨k, x, hk, rfl, rfl, hx0, hx1, hb, hz⟩ := hrel
    by_cases hlt : k < l.length
    · rcases h2 with h2 | ⟨b, o, rfl, hbl, hc⟩
      · rw [h2] at hlt; simp at hlt
      · have c0 : wr.cell? ⟨b, o + k * 4, none⟩ = some (.int .i64 l[k].n) := (hb.cell hbl).trans (hc k hlt 0 _ rfl)
        have c1 : wr.cell? ⟨b, o + k * 4 + 1, none⟩ = some (.int .i64 l[k].s) := (hb.cell hbl).trans (hc k hlt 1 _ rfl)
        have c2 : wr.cell? ⟨b, o + k * 4 + 2, none⟩ = some (.int .i64 l[k].t) := (hb.cell hbl).trans (hc k hlt 2 _ rfl)
        have c3 : wr.cell? ⟨b, o + k * 4 + 3, none⟩ = some (.int .i64 l[k].k) := (hb.cell hbl).trans (hc k hlt 3 _ rfl)
        have hlt' : (k : Int) < l.length := by omega
        have hw := hb.size
        have hr' : Hid (Calls Try.prog 87 #[.slice (some ⟨wr.heap.size + 1, 0, none⟩) 4 4] ((wr.alloc (.cells #[.int .i64 l[k].n, .int .i64 l[k].s, .int .i64 l[k].t, .int .i64 l[k].k] 69)).alloc (.cells #[.int .i64 l[k].n, .int .i64 1, .int .i64 x, .int .i64 l[k].s, .int .i64 0, .int .i64 64, .int .i64 l[k].t, .int .i64 0, .int .i64 15, .int .i64 l[k].k, .int .i64 0, .int .i64 1] 152)) fun e w' => e = .returned (.bool (decide (1 ≤ l[k].n ∧ l[k].n ≤ x ∧ chB l[k] = true))) ∧ Below (wr.heap.size + 1) (wr.alloc (.cells #[.int .i64 l[k].n, .int .i64 l[k].s, .int .i64 l[k].t, .int .i64 l[k].k] 69)) w') := by
          have := hr.out (wr.alloc (.cells #[.int .i64 l[k].n, .int .i64 l[k].s, .int .i64 l[k].t, .int .i64 l[k].k] 69)) (wr.heap.size + 1) l[k] x (World.size_alloc _ _)
          rw [World.size_alloc] at this
          exact this
        have hbx : ∀ W, Below (wr.heap.size + 1) (wr.alloc (.cells #[.int .i64 l[k].n, .int .i64 l[k].s, .int .i64 l[k].t, .int .i64 l[k].k] 69)) W → W.cell? ⟨wr.heap.size, 0, none⟩ = some (.int .i64 l[k].n) ∧ Below w.heap.size w W := fun W hB => by
          refine ⟨(hB.cell (by simp)).trans ?_, (hb.alloc hb.size _).trans (hB.mono (by omega))⟩
          rw [Lib.cell_of_heap (World.alloc_heap_new wr _)]; rfl
        have hst := spB_step hlt (n := x)
        have hno := spB_no hlt (n := x)
        have hst' : Hid (1 ≤ l[k].n ∧ l[k].n ≤ x ∧ chB l[k] = true → z = spB (l.drop (k + 1)) (x - l[k].n)) := fun h => hz.out.trans (hst h)
        have hno' : Hid (¬ (1 ≤ l[k].n ∧ l[k].n ≤ x ∧ chB l[k] = true) → z = false) := fun h => hz.out.trans (hno h)
        clear hst hno hz hr hc
        by_cases hv : 1 ≤ l[k].n ∧ l[k].n ≤ x ∧ chB l[k] = true
        · rw [decide_eq_true hv] at hr'
          have hz' := hst'.out hv
          have hz2 : Hid (z = spB (l.drop (k + 1)) (x - l[k].n)) := hz'
          obtain ⟨hv1, hv2, _⟩ := hv
          clear hst' hno' hz'
          generalize l[k].n = x0 at *
          generalize l[k].s = x1 at *
          generalize l[k].t = x2 at *
          generalize l[k].k = x3 at *
          go_wp2_with (go_at_call 87; refine hr'.out.mono ?_; rintro e w' ⟨rfl, hB⟩; obtain ⟨d0, hB2⟩ := hbx _ hB)
          go_roundw
          case rel => exact ⟨k + 1, x - x0, by omega, by simp, by first | rfl | simp, by omega, by omega, hB2, hz2⟩
          case measure => simp [intOf]; omega
        · rw [decide_eq_false hv] at hr'
          have hz' := hno'.out hv
          subst hz'
          clear hst' hno' hv
          generalize l[k].n = x0 at *
          generalize l[k].s = x1 at *
          generalize l[k].t = x2 at *
          generalize l[k].k = x3 at *
          go_wp2_with (go_at_call 87; refine hr'.out.mono ?_; rintro e w' ⟨rfl, hB⟩; obtain ⟨d0, hB2⟩ := hbx _ hB)
          go_ret
          exact ⟨rfl, hB2⟩
    · have hge : ¬ (k : Int) < l.length := by omega
      obtain rfl : k = l.length := by omega
      have hz' := hz.out.trans (spB_end l x)
      subst hz'
      clear hz hr h2
      go_wp2_with fail
      all_goals go_ret
      all_goals refine ⟨?_, hb⟩
      all_goals congr 2
      all_goals (try rfl)
      all_goals (rw [Bool.eq_iff_iff]; simp)

end Go.Proofs.Ytkhnfmdhdfpdhaa
