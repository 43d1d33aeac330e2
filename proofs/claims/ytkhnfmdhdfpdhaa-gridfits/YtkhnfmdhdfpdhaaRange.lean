/-
  What is proved here: the law of a range over a function whose iterator lays private blocks of its own between two rounds (no program is named).
-/
import Derived.RangeFuncNested
import Derived.Deep.Draws
namespace Go.Proofs.Ytkhnfmdhdfpdhaa
open Go.RowKit

/-- No block. -/
def Noth : Nat → Prop := fun _ => False

/-- What lay outside X lies as it lay. -/
structure Turns (X : Nat → Prop) (W W' : World) : Prop where
  os : W'.os = W.os
  tape : W'.tape = W.tape
  output : W'.output = W.output
  size : W.heap.size ≤ W'.heap.size
  block : ∀ k, k < W.heap.size → ¬ X k → W'.heap[k]? = W.heap[k]?

theorem Turns.refl (X : Nat → Prop) (W : World) : Turns X W W := ⟨rfl, rfl, rfl, Nat.le_refl _, fun _ _ _ => rfl⟩
theorem Turns.trans {X : Nat → Prop} {A B C : World} (h : Turns X A B) (k : Turns X B C) : Turns X A C :=
  ⟨k.os.trans h.os, k.tape.trans h.tape, k.output.trans h.output, Nat.le_trans h.size k.size, fun i hi hx => (k.block i (Nat.lt_of_lt_of_le hi h.size) hx).trans (h.block i hi hx)⟩
/-- .. where the second step turns also what the first has laid. -/
theorem Turns.trans' {X Y : Nat → Prop} {A B C : World} (h : Turns X A B) (k : Turns Y B C) (hY : ∀ i, Y i → X i ∨ A.heap.size ≤ i) : Turns X A C :=
  ⟨k.os.trans h.os, k.tape.trans h.tape, k.output.trans h.output, Nat.le_trans h.size k.size, fun i hi hx =>
    (k.block i (Nat.lt_of_lt_of_le hi h.size) (fun hy => (hY i hy).elim hx (fun h' => by omega))).trans (h.block i hi hx)⟩
theorem Turns.mono {X Y : Nat → Prop} {A B : World} (h : Turns X A B) (hY : ∀ i, X i → Y i) : Turns Y A B :=
  ⟨h.os, h.tape, h.output, h.size, fun i hi hy => h.block i hi (fun hx => hy (hY i hx))⟩
theorem Turns.alloc (X : Nat → Prop) (W : World) (o : Obj) : Turns X W (W.alloc o) :=
  ⟨rfl, rfl, rfl, by simp, fun k hk _ => Below.heap_alloc _ _ _ hk⟩
theorem Turns.setCell {X : Nat → Prop} (W : World) {p : Addr} (hp : X p.block) (u : Value) : Turns X W (W.setCell p u) :=
  ⟨rfl, rfl, rfl, by simp, fun k _ hk => Below.heap_setCell _ _ _ _ (fun e => hk (e ▸ hp))⟩
theorem Turns.putObj {X : Nat → Prop} (W : World) {r : Nat} (hp : X r) (o : Obj) : Turns X W (W.putObj r o) :=
  ⟨rfl, rfl, rfl, by simp, fun k _ hk => World.putObj_heap_other (fun e => hk (e ▸ hp))⟩
theorem Turns.drew (X : Nat → Prop) (W : World) : Turns X W W.drew := ⟨rfl, rfl, rfl, Nat.le_refl _, fun _ _ _ => rfl⟩
theorem Turns.drewN (X : Nat → Prop) (W : World) (n : Nat) : Turns X W (W.drewN n) := ⟨rfl, rfl, rfl, Nat.le_refl _, fun _ _ _ => rfl⟩
/-- Where only new blocks are turned. -/
theorem Turns.below {X : Nat → Prop} {W W' : World} (h : Turns X W W') {n : Nat} (hn : n ≤ W.heap.size) (hX : ∀ k, X k → n ≤ k) : Below n W W' :=
  ⟨h.os, h.tape, h.output, h.size, fun k hk => h.block k (by omega) (fun hx => by have := hX k hx; omega)⟩
theorem Turns.of_below {W W' : World} (h : Below W.heap.size W W') : Turns Noth W W' := ⟨h.os, h.tape, h.output, h.size, fun k hk _ => h.block k hk⟩

/-- What lies in X lies as it lay. -/
structure Keeps (X : Nat → Prop) (W W' : World) : Prop where
  size : W.heap.size ≤ W'.heap.size
  block : ∀ k, X k → k < W.heap.size → W'.heap[k]? = W.heap[k]?

theorem Keeps.refl (X : Nat → Prop) (W : World) : Keeps X W W := ⟨Nat.le_refl _, fun _ _ _ => rfl⟩
theorem Keeps.trans {X : Nat → Prop} {A B C : World} (h : Keeps X A B) (k : Keeps X B C) : Keeps X A C :=
  ⟨Nat.le_trans h.size k.size, fun i hx hi => (k.block i hx (Nat.lt_of_lt_of_le hi h.size)).trans (h.block i hx hi)⟩
theorem Keeps.mono {X Y : Nat → Prop} {A B : World} (h : Keeps X A B) (hY : ∀ i, Y i → X i) : Keeps Y A B := ⟨h.size, fun k hk hs => h.block k (hY k hk) hs⟩
theorem Keeps.of_turns {X Y : Nat → Prop} {A B : World} (h : Turns Y A B) (hd : ∀ k, X k → ¬ Y k) : Keeps X A B := ⟨h.size, fun k hk hs => h.block k hs (hd k hk)⟩
theorem Keeps.get {X : Nat → Prop} {A B : World} (h : Keeps X A B) {k : Nat} {o : Obj} (hx : X k) (ho : A.heap[k]? = some o) : B.heap[k]? = some o :=
  (h.block k hx (Array.getElem?_eq_some_iff.1 ho).1).trans ho

/-- What is said abides whatever turns X, or lays new blocks; these may be private from then on. -/
def Steady (J : Nat → (Nat → Prop) → World → Prop) : Prop :=
  ∀ (i : Nat) (X X' : Nat → Prop) (W W' : World), J i X W → Turns X W W' → (∀ k, X' k → X k ∨ (W.heap.size ≤ k ∧ k < W'.heap.size)) → J i X' W'

/-- An iterator: N rounds, round i at the values 'enc i'; R: what it reads, at all times. -/
def Gives (P : Program) (g : Nat) (lb : Array Value) (N : Nat) (enc : Nat → Array Value) (R : World → Prop) : Prop :=
  ∀ (l : Nat) (J Jx : Nat → (Nat → Prop) → World → Prop) (W : World), Steady J → Steady Jx → (∀ i X W, J i X W → R W) →
    (∀ (i : Nat) (X : Nat → Prop) (W1 : World), i < N → J i X W1 → YieldAt Fence.wide 0 P l (enc i) W1 fun e W' => Keeps X W1 W' ∧
      ((e = .returned (.bool true) ∧ J (i + 1) X W') ∨ (e = .returned (.bool false) ∧ Jx i X W'))) →
    J 0 Noth W →
    Calls P g (#[.func (.yield l) #[] #[]] ++ lb) W fun e W' => (∃ v, e = .returned v) ∧ (J N Noth W' ∨ ∃ i, i < N ∧ Jx i Noth W')

/-- How a round's body may be left. -/
def leftBy (I : Nat → (Nat → Prop) → World → Prop) (Ix : Code → Nat → (Nat → Prop) → World → Prop) (i : Nat) (X : Nat → Prop) (W : World) : Exit → Act → World → Prop
  | .normal, _, W' => Keeps X W W' ∧ I (i + 1) X W'
  | .ret, _, W' => Keeps X W W' ∧ Ix .ret i X W'
  | .exit id, _, W' => Keeps X W W' ∧ Ix (.exit id) i X W'
  | .goto t, _, W' => Keeps X W W' ∧ Ix (.goto t) i X W'
  | .panic _, _, _ => False
  | .outgrown, _, _ => False

theorem wp_range {P : Program} {g : Operand} {ps : Array Tmp} {assign body : Code} {Q : Exit → Act → World → Prop} {a : Act} {w : World} {gf : Nat} {lb : Array Value}
    (hg : a.eval g = .func (.func gf) #[] lb) (eg : ∀ args w, (callFunc gf args).run P w = .ok (.enter gf args) w)
    {N : Nat} {enc : Nat → Array Value} {R : World → Prop} (hseq : Gives P gf lb N enc R) (hps : ∀ i, (enc i).size = ps.size)
    (I : Nat → (Nat → Prop) → World → Prop) (Ix : Code → Nat → (Nat → Prop) → World → Prop) (Ia : Act → Nat → (Nat → Prop) → World → Prop)
    (hI : Steady I) (hIx : ∀ c, Steady (Ix c)) (hIa : ∀ a', Steady (Ia a')) (hR : ∀ i X W, I i X W → R W) (h0 : I 0 Noth w)
    (hassign : ∀ (l i : Nat) (X : Nat → Prop) (W : World) (K : Act → World → Prop), i < N → I i X W → (∀ a' W', Keeps X W W' → Ia a' i X W' → K a' W') →
      assign.wpIn (Fence.wide.inRound l) 0 P (Exit.then K (fun _ _ _ => False)) { tmps := (ps.zip (enc i)).foldl (fun t (p, v) => t.setIfInBounds p v) a.tmps, defers := [] } W)
    (hbody : ∀ (l i : Nat) (X : Nat → Prop) (a' : Act) (W : World), i < N → Ia a' i X W → body.wpIn (Fence.wide.inRound l) 0 P (leftBy I Ix i X W) a' W)
    (hdone : ∀ (D : Nat) (W : World), w.heap.size ≤ D → I N (fun k => k = D) W → W.heap[D]? = some (.deferred (some [])) → Q .normal { a with defers := { target := .collected D, args := #[] } :: a.defers } W)
    (hstop : ∀ (D : Nat) (c : Code) (i : Nat) (W : World), w.heap.size ≤ D → i < N → Ix c i (fun k => k = D) W → W.heap[D]? = some (.deferred (some [])) → c.wpIn Fence.wide 0 P Q { a with defers := { target := .collected D, args := #[] } :: a.defers } W) :
    (Code.rangeFunc g ps assign body).wpIn Fence.wide 0 P Q a w := by
  refine wpIn_rangeFunc ?_
  intro fn hfn
  obtain ⟨rec, hrec⟩ : ∃ rec : LoopState → Option Code → Loop, rec = fun st pe => { state := st, pending := pe, fn, tmps := a.tmps, params := ps, assign, body, defers := w.heap.size } := ⟨_, rfl⟩
  obtain ⟨D, hD⟩ : ∃ D, D = w.heap.size := ⟨_, rfl⟩
  obtain ⟨l, hl⟩ : ∃ l, l = w.heap.size + 1 := ⟨_, rfl⟩
  obtain ⟨W1, hW1⟩ : ∃ W1, (w.alloc (.deferred (some []))).alloc (.loop (rec .ready none)) = W1 := ⟨_, rfl⟩
  have hL1 : W1.heap[l]? = some (.loop (rec .ready none)) := by
    rw [← hW1, hl]; have := World.alloc_heap_new (w.alloc (.deferred (some []))) (.loop (rec .ready none)); rwa [World.size_alloc] at this
  have hK1 : W1.heap[D]? = some (.deferred (some [])) := by
    rw [← hW1, hD]; exact (Below.heap_alloc _ _ _ (by simp)).trans (World.alloc_heap_new w _)
  have hT1 : Turns Noth w W1 := by rw [← hW1]; exact (Turns.alloc _ _ _).trans (Turns.alloc _ _ _)
  refine ⟨l, [{ target := .collected D, args := #[] }], W1, { target := .fn (.func gf) lb, args := #[.func (.yield l) #[] #[]] }, W1, gf, #[.func (.yield l) #[] #[]] ++ lb, W1, ?_, ?_, ?_, ?_, (fun h => (by cases h)), ?_⟩
  · rw [← hW1, hrec, hl, hD]; exact run_enterLoop_outer _ _ _ _ _
  · simp only [resolve, hg]
    simp [go_sem]
  · intro f' _; trivial
  · simp [invoke, go_sem, eg]
  · have hDl : D ≠ l := by omega
    refine callsIn_wide.2 ((hseq l
      (fun i X W => I i (fun k => X k ∨ k = l ∨ k = D) W ∧ W.heap[l]? = some (.loop (rec .ready none)) ∧ W.heap[D]? = some (.deferred (some [])) ∧ ¬ X l ∧ ¬ X D)
      (fun i X W => ∃ c, Ix c i (fun k => X k ∨ k = l ∨ k = D) W ∧ W.heap[l]? = some (.loop (rec .done (some c))) ∧ W.heap[D]? = some (.deferred (some [])) ∧ ¬ X l ∧ ¬ X D)
      W1 ?_ ?_ (fun i X W h => hR _ _ _ h.1) ?_ ⟨?_, hL1, hK1, fun h => h, fun h => h⟩).mono ?_)
    · rintro i X X' A B ⟨hi, hla, hda, hxl, hxd⟩ ht hx
      have sl := (Array.getElem?_eq_some_iff.1 hla).1
      have sd := (Array.getElem?_eq_some_iff.1 hda).1
      refine ⟨hI i _ _ A B hi (ht.mono (fun _ h => .inl h)) ?_, (ht.block l sl hxl).trans hla, (ht.block D sd hxd).trans hda, ?_, ?_⟩
      · rintro k (h | h)
        · exact (hx k h).elim (fun h => .inl (.inl h)) .inr
        · exact .inl (.inr h)
      · intro h; exact (hx l h).elim hxl (fun h => by omega)
      · intro h; exact (hx D h).elim hxd (fun h => by omega)
    · rintro i X X' A B ⟨c, hi, hla, hda, hxl, hxd⟩ ht hx
      have sl := (Array.getElem?_eq_some_iff.1 hla).1
      have sd := (Array.getElem?_eq_some_iff.1 hda).1
      refine ⟨c, hIx c i _ _ A B hi (ht.mono (fun _ h => .inl h)) ?_, (ht.block l sl hxl).trans hla, (ht.block D sd hxd).trans hda, ?_, ?_⟩
      · rintro k (h | h)
        · exact (hx k h).elim (fun h => .inl (.inl h)) .inr
        · exact .inl (.inr h)
      · intro h; exact (hx l h).elim hxl (fun h => by omega)
      · intro h; exact (hx D h).elim hxd (fun h => by omega)
    · -- one round
      rintro i X W hiN ⟨hi, hlw, hdw, hxl, hxd⟩
      have hy := run_yield (P := P) (args := enc i) hlw (by rw [hrec]; exact hps i)
      rw [hrec] at hy
      refine ⟨fn, _, assign, body, hy, roundIn_of_wpIn hfn (hassign l i _ W _ hiN hi ?_)⟩
      clear hy
      intro a' Wa hka hia
      have hla := hka.get (.inr (.inl rfl)) hlw
      have hda := hka.get (.inr (.inr rfl)) hdw
      have sla := (Array.getElem?_eq_some_iff.1 hla).1
      refine ⟨_, run_beginRound hla (by rw [hrec]), ?_⟩
      obtain ⟨Wb, hWb⟩ : ∃ Wb, Wa.putObj l (.loop { rec .ready none with state := .busy }) = Wb := ⟨_, rfl⟩
      rw [hWb]
      have hlb : Wb.heap[l]? = some (.loop { rec .ready none with state := .busy }) := by rw [← hWb]; exact World.putObj_heap_same sla
      have hdb : Wb.heap[D]? = some (.deferred (some [])) := by rw [← hWb]; exact (World.putObj_heap_other hDl).trans hda
      have hib : Ia a' i (fun k => X k ∨ k = l ∨ k = D) Wb := by
        rw [← hWb]; exact hIa a' i _ _ Wa _ hia (Turns.putObj Wa (.inr (.inl rfl)) _) (fun k h => .inl h)
      have hkb : Keeps X W Wb := by
        rw [← hWb]; exact (hka.mono (fun _ h => .inl h)).trans (Keeps.of_turns (Turns.putObj (X := fun k => k = l) Wa rfl _) (fun k hk e => hxl (e ▸ hk)))
      refine wpIn_mono (hbody l i _ a' Wb hiN hib) ?_
      have fin : ∀ (jump : Option Code) (W3 : World), Keeps (fun k => X k ∨ k = l ∨ k = D) Wb W3 →
          (Instr.endRound l jump).run P W3 = .ok (.bool jump.isNone) (W3.putObj l (.loop (rec (if jump.isNone then .ready else .done) jump))) ∧
          (W3.putObj l (.loop (rec (if jump.isNone then .ready else .done) jump))).heap[l]? = some (.loop (rec (if jump.isNone then .ready else .done) jump)) ∧
          (W3.putObj l (.loop (rec (if jump.isNone then .ready else .done) jump))).heap[D]? = some (.deferred (some [])) ∧
          Keeps X W (W3.putObj l (.loop (rec (if jump.isNone then .ready else .done) jump))) := fun jump W3 hk3 => by
        have hl3 := hk3.get (.inr (.inl rfl)) hlb
        have hd3 := hk3.get (.inr (.inr rfl)) hdb
        have := run_endRound (P := P) jump hl3
        rw [hrec] at this ⊢
        exact ⟨this, World.putObj_heap_same (Array.getElem?_eq_some_iff.1 hl3).1, (World.putObj_heap_other hDl).trans hd3,
          (hkb.trans (hk3.mono (fun _ h => .inl h))).trans (Keeps.of_turns (Turns.putObj (X := fun k => k = l) W3 rfl _) (fun k hk e => hxl (e ▸ hk)))⟩
      rintro e a3 W3 hp
      cases e with
      | normal =>
        obtain ⟨hk3, hi3⟩ := hp
        obtain ⟨hr, hl4, hd4, hk4⟩ := fin none W3 hk3
        exact ⟨_, _, hr, hk4, .inl ⟨rfl, hI _ _ _ _ _ hi3 (Turns.putObj W3 (.inr (.inl rfl)) _) (fun k h => .inl h), hl4, hd4, hxl, hxd⟩⟩
      | ret =>
        obtain ⟨hk3, hi3⟩ := hp
        obtain ⟨hr, hl4, hd4, hk4⟩ := fin (some .ret) W3 hk3
        exact ⟨_, _, hr, hk4, .inr ⟨rfl, .ret, hIx _ _ _ _ _ _ hi3 (Turns.putObj W3 (.inr (.inl rfl)) _) (fun k h => .inl h), hl4, hd4, hxl, hxd⟩⟩
      | exit id =>
        obtain ⟨hk3, hi3⟩ := hp
        obtain ⟨hr, hl4, hd4, hk4⟩ := fin (some (.exit id)) W3 hk3
        exact ⟨_, _, hr, hk4, .inr ⟨rfl, .exit id, hIx _ _ _ _ _ _ hi3 (Turns.putObj W3 (.inr (.inl rfl)) _) (fun k h => .inl h), hl4, hd4, hxl, hxd⟩⟩
      | goto t =>
        obtain ⟨hk3, hi3⟩ := hp
        obtain ⟨hr, hl4, hd4, hk4⟩ := fin (some (.goto t)) W3 hk3
        exact ⟨_, _, hr, hk4, .inr ⟨rfl, .goto t, hIx _ _ _ _ _ _ hi3 (Turns.putObj W3 (.inr (.inl rfl)) _) (fun k h => .inl h), hl4, hd4, hxl, hxd⟩⟩
      | panic ch => exact hp.elim
      | outgrown => exact hp.elim
    · have s1 := (Array.getElem?_eq_some_iff.1 hL1).1
      exact hI 0 Noth _ w W1 h0 hT1 (fun k h => by rcases h with h | h | h; exact h.elim; exact .inr (by omega); exact .inr (by omega))
    · -- behind the iterator
      rintro e W2 ⟨⟨v, rfl⟩, (⟨hi, hl2, hd2, _, _⟩ | ⟨i, hiN, c, hi, hl2, hd2, _, _⟩)⟩
      · refine ⟨none, _, by have := run_endLoop (P := P) hl2 (by rw [hrec]; simp); rw [hrec] at this; exact this, ?_⟩
        exact hdone D _ (by omega) (hI N _ _ W2 _ hi (Turns.putObj W2 (.inr (.inl rfl)) _) (fun k h => .inl (.inr (.inr h)))) ((World.putObj_heap_other hDl).trans hd2)
      · refine ⟨some c, _, by have := run_endLoop (P := P) hl2 (by rw [hrec]; simp); rw [hrec] at this; exact this, ?_⟩
        exact hstop D c i _ (by omega) hiN (hIx c i _ _ W2 _ hi (Turns.putObj W2 (.inr (.inl rfl)) _) (fun k h => .inl (.inr (.inr h)))) ((World.putObj_heap_other hDl).trans hd2)

/-- The world behind 'own' is as it was when the loop began; what is private is younger than that. -/
structure Base (w₁ : World) (own X : Nat → Prop) (W : World) : Prop where
  turns : Turns own w₁ W
  young : ∀ k, X k → w₁.heap.size ≤ k ∧ k < W.heap.size

theorem Base.step {w₁ W W' : World} {own X X' : Nat → Prop} (h : Base w₁ own X W) (ht : Turns X W W') (hx : ∀ k, X' k → X k ∨ (W.heap.size ≤ k ∧ k < W'.heap.size)) : Base w₁ own X' W' :=
  ⟨h.turns.trans' ht (fun k hk => .inr (h.young k hk).1), fun k hk => by
    have s1 := h.turns.size
    have s2 := ht.size
    rcases hx k hk with h' | h'
    · have := h.young k h'; omega
    · omega⟩
theorem Base.keep {w₁ W W' : World} {own X : Nat → Prop} (h : Base w₁ own X W) (ht : Turns X W W') {k : Nat} (hk : k < w₁.heap.size) : W'.heap[k]? = W.heap[k]? :=
  ht.block k (Nat.lt_of_lt_of_le hk h.turns.size) (fun hx => by have := h.young k hx; omega)
theorem Base.start (w₁ : World) (own : Nat → Prop) : Base w₁ own Noth w₁ := ⟨Turns.refl _ _, fun _ h => h.elim⟩
theorem Base.fresh {w₁ W : World} {own X : Nat → Prop} (h : Base w₁ own X W) : ¬ X W.heap.size := fun hx => by have := h.young _ hx; omega
theorem Base.alloc {w₁ W : World} {own X : Nat → Prop} (h : Base w₁ own X W) (o : Obj) : Base w₁ own X (W.alloc o) :=
  h.step (Turns.alloc _ _ _) (fun _ h => .inl h)
theorem Base.set {w₁ W : World} {own X : Nat → Prop} (h : Base w₁ own X W) {p : Addr} (hp : own p.block) (u : Value) : Base w₁ own X (W.setCell p u) :=
  ⟨h.turns.trans (Turns.setCell W hp u), fun k hk => by have := h.young k hk; simpa using this⟩
theorem Keeps.alloc (X : Nat → Prop) (W : World) (o : Obj) : Keeps X W (W.alloc o) := Keeps.of_turns (Turns.alloc Noth W o) (fun _ _ h => h)
theorem Keeps.set {X : Nat → Prop} (W : World) {p : Addr} (hp : ¬ X p.block) (u : Value) : Keeps X W (W.setCell p u) :=
  Keeps.of_turns (Turns.setCell (X := fun k => k = p.block) W rfl u) (fun _ hk e => hp (e ▸ hk))

theorem Steady.and {I J : Nat → (Nat → Prop) → World → Prop} (h : Steady I) (k : Steady J) : Steady (fun i X W => I i X W ∧ J i X W) :=
  fun i X X' W W' hs ht hx => ⟨h i X X' W W' hs.1 ht hx, k i X X' W W' hs.2 ht hx⟩
/-- The box of a round's own variable. -/
theorem steady_round (a' : Act) (o : Nat → Obj) (mk : Nat → Nat → Act) : Steady (fun i X W => ∃ B, ¬ X B ∧ W.heap[B]? = some (o i) ∧ a' = mk i B) :=
  fun _ _ _ _ _ hs ht hx => by
    obtain ⟨B, hB, ho, hp⟩ := hs
    have hlt := (Array.getElem?_eq_some_iff.1 ho).1
    exact ⟨B, fun h => (hx B h).elim hB (fun h => by omega), (ht.block B hlt hB).trans ho, hp⟩
theorem steady_never : Steady (fun _ _ _ => False) := fun _ _ _ _ _ hs _ _ => hs

/-- At the end of a function whose loop has run: nothing that lay has turned. -/
theorem below_end {w w₁ W : World} {own : Nat → Prop} {D : Nat} (h1 : Turns Noth w w₁) (hb : Base w₁ own (fun k => k = D) W) (ho : ∀ k, own k → w.heap.size ≤ k) (o : Obj) : Below w.heap.size w (W.putObj D o) := by
  have hD := (hb.young D rfl).1
  have s1 := h1.size
  refine Turns.below (X := fun k => w.heap.size ≤ k) ?_ (Nat.le_refl _) (fun _ h => h)
  exact ((h1.mono (fun _ h => h.elim)).trans (hb.turns.mono ho)).trans (Turns.putObj W (by omega) o)

end Go.Proofs.Ytkhnfmdhdfpdhaa
