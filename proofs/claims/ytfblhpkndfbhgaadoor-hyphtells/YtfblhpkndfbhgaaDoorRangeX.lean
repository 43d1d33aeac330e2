/-
  What is proved here: the law of a range over a function whose iterator has private blocks from the beginning, and turns them between two rounds (no program is named).
-/
import Derived.Test.YtfblhpkndfbhgaaDoorRange
namespace Go.Proofs.YtfblhpkndfbhgaaDoor
open Go.RowKit

/-- An iterator: N rounds, round i at the values 'enc i'; X0: its own blocks, R: what they hold at first. -/
def GivesX (P : Program) (g : Nat) (lb : Array Value) (N : Nat) (enc : Nat → Array Value) (X0 : Nat → Prop) (R : World → Prop) : Prop :=
  ∀ (l : Nat) (J Jx : Nat → (Nat → Prop) → World → Prop) (W : World), Steady J → Steady Jx →
    (∀ (i : Nat) (X : Nat → Prop) (W1 : World), i < N → J i X W1 → YieldAt Fence.wide 0 P l (enc i) W1 fun e W' => Keeps X W1 W' ∧
      ((e = .returned (.bool true) ∧ J (i + 1) X W') ∨ (e = .returned (.bool false) ∧ Jx i X W'))) →
    J 0 X0 W → R W → (∀ k, X0 k → k < W.heap.size) →
    Calls P g (#[.func (.yield l) #[] #[]] ++ lb) W fun e W' => (∃ v, e = .returned v) ∧ (J N X0 W' ∨ ∃ i, i < N ∧ Jx i X0 W')

theorem wp_rangeX {P : Program} {g : Operand} {ps : Array Tmp} {assign body : Code} {Q : Exit → Act → World → Prop} {a : Act} {w : World} {gf : Nat} {lb : Array Value}
    (hg : a.eval g = .func (.func gf) #[] lb) (eg : ∀ args w, (callFunc gf args).run P w = .ok (.enter gf args) w)
    {N : Nat} {enc : Nat → Array Value} {X0 : Nat → Prop} {R : World → Prop} (hseq : GivesX P gf lb N enc X0 R) (hps : ∀ i, (enc i).size = ps.size)
    (I : Nat → (Nat → Prop) → World → Prop) (Ix : Code → Nat → (Nat → Prop) → World → Prop) (Ia : Act → Nat → (Nat → Prop) → World → Prop)
    (hI : Steady I) (hIx : ∀ c, Steady (Ix c)) (hIa : ∀ a', Steady (Ia a')) (hR : ∀ W, Turns Noth w W → R W) (hX0 : ∀ k, X0 k → k < w.heap.size) (h0 : I 0 X0 w)
    (hassign : ∀ (l i : Nat) (X : Nat → Prop) (W : World) (K : Act → World → Prop), i < N → I i X W → (∀ a' W', Keeps X W W' → Ia a' i X W' → K a' W') →
      assign.wpIn (Fence.wide.inRound l) 0 P (Exit.then K (fun _ _ _ => False)) { tmps := (ps.zip (enc i)).foldl (fun t (p, v) => t.setIfInBounds p v) a.tmps, defers := [] } W)
    (hbody : ∀ (l i : Nat) (X : Nat → Prop) (a' : Act) (W : World), i < N → Ia a' i X W → body.wpIn (Fence.wide.inRound l) 0 P (leftBy I Ix i X W) a' W)
    (hdone : ∀ (D : Nat) (W : World), w.heap.size ≤ D → I N (fun k => k = D) W → W.heap[D]? = some (.deferred (some [])) → Q .normal { a with defers := { target := .collected D, args := #[] } :: a.defers } W)
    (hstop : ∀ (D : Nat) (c : Code) (i : Nat) (W : World), w.heap.size ≤ D → i < N → Ix c i (fun k => k = D) W → W.heap[D]? = some (.deferred (some [])) → c.wpIn Fence.wide 0 P Q { a with defers := { target := .collected D, args := #[] } :: a.defers } W) :
    (Code.rangeFunc g ps assign body).wpIn Fence.wide 0 P Q a w := by
  refine wpIn_rangeFunc ?_
  intro fn hfn
  obtain ⟨rec, hrec⟩ : ∃ rec : LoopState → Option Code → Loop, rec = fun st pe => { state := st, pending := pe, fn, tmps := a.tmps, params := ps, assign, body, defers := w.heap.size } := ⟨_, rfl⟩
  obtain ⟨D, hD⟩ : ∃ D, D = w.heap.size := ⟨_, rfl⟩
  obtain ⟨l, hl⟩ : ∃ l, l = w.heap.size + 1 := ⟨_, rfl⟩
  obtain ⟨W1, hW1⟩ : ∃ W1, (w.alloc (.deferred (some []))).alloc (.loop (rec .ready none)) = W1 := ⟨_, rfl⟩
  have hL1 : W1.heap[l]? = some (.loop (rec .ready none)) := by
    rw [← hW1, hl]; have := World.alloc_heap_new (w.alloc (.deferred (some []))) (.loop (rec .ready none)); rwa [World.size_alloc] at this
  have hK1 : W1.heap[D]? = some (.deferred (some [])) := by
    rw [← hW1, hD]; exact (Below.heap_alloc _ _ _ (by simp)).trans (World.alloc_heap_new w _)
  have hT1 : Turns Noth w W1 := by rw [← hW1]; exact (Turns.alloc _ _ _).trans (Turns.alloc _ _ _)
  refine ⟨l, [{ target := .collected D, args := #[] }], W1, { target := .fn (.func gf) lb, args := #[.func (.yield l) #[] #[]] }, W1, gf, #[.func (.yield l) #[] #[]] ++ lb, W1, ?_, ?_, ?_, ?_, (fun h => (by cases h)), ?_⟩
  · rw [← hW1, hrec, hl, hD]; exact run_enterLoop_outer _ _ _ _ _
  · simp only [resolve, hg]
    simp [go_sem]
  · intro f' _; trivial
  · simp [invoke, go_sem, eg]
  · have hDl : D ≠ l := by omega
    refine callsIn_wide.2 ((hseq l
      (fun i X W => I i (fun k => X k ∨ k = l ∨ k = D) W ∧ W.heap[l]? = some (.loop (rec .ready none)) ∧ W.heap[D]? = some (.deferred (some [])) ∧ ¬ X l ∧ ¬ X D)
      (fun i X W => ∃ c, Ix c i (fun k => X k ∨ k = l ∨ k = D) W ∧ W.heap[l]? = some (.loop (rec .done (some c))) ∧ W.heap[D]? = some (.deferred (some [])) ∧ ¬ X l ∧ ¬ X D)
      W1 ?_ ?_ ?_ ⟨?_, hL1, hK1, fun h => (by have := hX0 _ h; omega), fun h => (by have := hX0 _ h; omega)⟩ (hR _ hT1) (fun k hk => Nat.lt_of_lt_of_le (hX0 k hk) hT1.size)).mono ?_)
    · rintro i X X' A B ⟨hi, hla, hda, hxl, hxd⟩ ht hx
      have sl := (Array.getElem?_eq_some_iff.1 hla).1
      have sd := (Array.getElem?_eq_some_iff.1 hda).1
      refine ⟨hI i _ _ A B hi (ht.mono (fun _ h => .inl h)) ?_, (ht.block l sl hxl).trans hla, (ht.block D sd hxd).trans hda, ?_, ?_⟩
      · rintro k (h | h)
        · exact (hx k h).elim (fun h => .inl (.inl h)) .inr
        · exact .inl (.inr h)
      · intro h; exact (hx l h).elim hxl (fun h => by omega)
      · intro h; exact (hx D h).elim hxd (fun h => by omega)
    · rintro i X X' A B ⟨c, hi, hla, hda, hxl, hxd⟩ ht hx
      have sl := (Array.getElem?_eq_some_iff.1 hla).1
      have sd := (Array.getElem?_eq_some_iff.1 hda).1
      refine ⟨c, hIx c i _ _ A B hi (ht.mono (fun _ h => .inl h)) ?_, (ht.block l sl hxl).trans hla, (ht.block D sd hxd).trans hda, ?_, ?_⟩
      · rintro k (h | h)
        · exact (hx k h).elim (fun h => .inl (.inl h)) .inr
        · exact .inl (.inr h)
      · intro h; exact (hx l h).elim hxl (fun h => by omega)
      · intro h; exact (hx D h).elim hxd (fun h => by omega)
    · -- one round
      rintro i X W hiN ⟨hi, hlw, hdw, hxl, hxd⟩
      have hy := run_yield (P := P) (args := enc i) hlw (by rw [hrec]; exact hps i)
      rw [hrec] at hy
      refine ⟨fn, _, assign, body, hy, roundIn_of_wpIn hfn (hassign l i _ W _ hiN hi ?_)⟩
      clear hy
      intro a' Wa hka hia
      have hla := hka.get (.inr (.inl rfl)) hlw
      have hda := hka.get (.inr (.inr rfl)) hdw
      have sla := (Array.getElem?_eq_some_iff.1 hla).1
      refine ⟨_, run_beginRound hla (by rw [hrec]), ?_⟩
      obtain ⟨Wb, hWb⟩ : ∃ Wb, Wa.putObj l (.loop { rec .ready none with state := .busy }) = Wb := ⟨_, rfl⟩
      rw [hWb]
      have hlb : Wb.heap[l]? = some (.loop { rec .ready none with state := .busy }) := by rw [← hWb]; exact World.putObj_heap_same sla
      have hdb : Wb.heap[D]? = some (.deferred (some [])) := by rw [← hWb]; exact (World.putObj_heap_other hDl).trans hda
      have hib : Ia a' i (fun k => X k ∨ k = l ∨ k = D) Wb := by
        rw [← hWb]; exact hIa a' i _ _ Wa _ hia (Turns.putObj Wa (.inr (.inl rfl)) _) (fun k h => .inl h)
      have hkb : Keeps X W Wb := by
        rw [← hWb]; exact (hka.mono (fun _ h => .inl h)).trans (Keeps.of_turns (Turns.putObj (X := fun k => k = l) Wa rfl _) (fun k hk e => hxl (e ▸ hk)))
      refine wpIn_mono (hbody l i _ a' Wb hiN hib) ?_
      have fin : ∀ (jump : Option Code) (W3 : World), Keeps (fun k => X k ∨ k = l ∨ k = D) Wb W3 →
          (Instr.endRound l jump).run P W3 = .ok (.bool jump.isNone) (W3.putObj l (.loop (rec (if jump.isNone then .ready else .done) jump))) ∧
          (W3.putObj l (.loop (rec (if jump.isNone then .ready else .done) jump))).heap[l]? = some (.loop (rec (if jump.isNone then .ready else .done) jump)) ∧
          (W3.putObj l (.loop (rec (if jump.isNone then .ready else .done) jump))).heap[D]? = some (.deferred (some [])) ∧
          Keeps X W (W3.putObj l (.loop (rec (if jump.isNone then .ready else .done) jump))) := fun jump W3 hk3 => by
        have hl3 := hk3.get (.inr (.inl rfl)) hlb
        have hd3 := hk3.get (.inr (.inr rfl)) hdb
        have := run_endRound (P := P) jump hl3
        rw [hrec] at this ⊢
        exact ⟨this, World.putObj_heap_same (Array.getElem?_eq_some_iff.1 hl3).1, (World.putObj_heap_other hDl).trans hd3,
          (hkb.trans (hk3.mono (fun _ h => .inl h))).trans (Keeps.of_turns (Turns.putObj (X := fun k => k = l) W3 rfl _) (fun k hk e => hxl (e ▸ hk)))⟩
      rintro e a3 W3 hp
      cases e with
      | normal =>
        obtain ⟨hk3, hi3⟩ := hp
        obtain ⟨hr, hl4, hd4, hk4⟩ := fin none W3 hk3
        exact ⟨_, _, hr, hk4, .inl ⟨rfl, hI _ _ _ _ _ hi3 (Turns.putObj W3 (.inr (.inl rfl)) _) (fun k h => .inl h), hl4, hd4, hxl, hxd⟩⟩
      | ret =>
        obtain ⟨hk3, hi3⟩ := hp
        obtain ⟨hr, hl4, hd4, hk4⟩ := fin (some .ret) W3 hk3
        exact ⟨_, _, hr, hk4, .inr ⟨rfl, .ret, hIx _ _ _ _ _ _ hi3 (Turns.putObj W3 (.inr (.inl rfl)) _) (fun k h => .inl h), hl4, hd4, hxl, hxd⟩⟩
      | exit id =>
        obtain ⟨hk3, hi3⟩ := hp
        obtain ⟨hr, hl4, hd4, hk4⟩ := fin (some (.exit id)) W3 hk3
        exact ⟨_, _, hr, hk4, .inr ⟨rfl, .exit id, hIx _ _ _ _ _ _ hi3 (Turns.putObj W3 (.inr (.inl rfl)) _) (fun k h => .inl h), hl4, hd4, hxl, hxd⟩⟩
      | goto t =>
        obtain ⟨hk3, hi3⟩ := hp
        obtain ⟨hr, hl4, hd4, hk4⟩ := fin (some (.goto t)) W3 hk3
        exact ⟨_, _, hr, hk4, .inr ⟨rfl, .goto t, hIx _ _ _ _ _ _ hi3 (Turns.putObj W3 (.inr (.inl rfl)) _) (fun k h => .inl h), hl4, hd4, hxl, hxd⟩⟩
      | panic ch => exact hp.elim
      | outgrown => exact hp.elim
    · have s1 := (Array.getElem?_eq_some_iff.1 hL1).1
      exact hI 0 X0 _ w W1 h0 (hT1.mono (fun _ h => h.elim)) (fun k h => by rcases h with h | h | h; exact .inl h; exact .inr (by omega); exact .inr (by omega))
    · -- behind the iterator
      rintro e W2 ⟨⟨v, rfl⟩, (⟨hi, hl2, hd2, _, _⟩ | ⟨i, hiN, c, hi, hl2, hd2, _, _⟩)⟩
      · refine ⟨none, _, by have := run_endLoop (P := P) hl2 (by rw [hrec]; simp); rw [hrec] at this; exact this, ?_⟩
        exact hdone D _ (by omega) (hI N _ _ W2 _ hi (Turns.putObj W2 (.inr (.inl rfl)) _) (fun k h => .inl (.inr (.inr h)))) ((World.putObj_heap_other hDl).trans hd2)
      · refine ⟨some c, _, by have := run_endLoop (P := P) hl2 (by rw [hrec]; simp); rw [hrec] at this; exact this, ?_⟩
        exact hstop D c i _ (by omega) hiN (hIx c i _ _ W2 _ hi (Turns.putObj W2 (.inr (.inl rfl)) _) (fun k h => .inl (.inr (.inr h)))) ((World.putObj_heap_other hDl).trans hd2)


end Go.Proofs.YtfblhpkndfbhgaaDoor
