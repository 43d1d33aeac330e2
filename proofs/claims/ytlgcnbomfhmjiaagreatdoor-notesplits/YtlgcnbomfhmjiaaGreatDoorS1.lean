/-
  What is proved here: the law of a range over a function whose iterator lays private blocks of its own between two rounds (no program is named).
  What is proved here: an append to a row of the call's own leaves it in its block, or lays it into a new one (no program is named).
  What is proved here: an append of any list, a nil one too, to a row of the call's own (no program is named).
  What is proved here: lists of records, in memory (no program is named).
  What is proved here: how a region is gone through whose operations come up in any order (no function of the program is named).
  What is proved here: what an item is, which may be; what keeps, fits and stop answer.
-/
import Derived.RangeFuncNested
import Derived.Deep.Draws
import Derived.OwnWalkIn
import Derived.RangeFuncBox
import Derived.Lib.AppendStr
import Derived.OwnWalk
import Derived.Deep.AppendSrc
import Derived.Below
import Derived.Lib.Builder
import Derived.WalkKit
import Derived.WalkSpells
import Derived.Shelf.Abstract
import Derived.OrdersHeld
import Derived.Test.YtlgcnbomfhmjiaaGreatDoorRows
import Derived.BigQuiet
import Derived.Handy
namespace Go.Proofs.YtlgcnbomfhmjiaaGreatDoor
open Go.RowKit

def Noth : Nat → Prop := fun _ => False

structure Turns (X : Nat → Prop) (W W' : World) : Prop where
 os : W'.os = W.os
 tape : W'.tape = W.tape
 output : W'.output = W.output
 size : W.heap.size ≤ W'.heap.size
 block : ∀ k,k < W.heap.size → ¬ X k → W'.heap[k]? = W.heap[k]?

theorem Turns.refl (X : Nat → Prop) (W : World) : Turns X W W := ⟨rfl,rfl,rfl,Nat.le_refl _,fun _ _ _ => rfl⟩
theorem Turns.trans {X : Nat → Prop} {A B C : World} (h : Turns X A B) (k : Turns X B C) : Turns X A C :=
 ⟨k.os.trans h.os,k.tape.trans h.tape,k.output.trans h.output,Nat.le_trans h.size k.size,fun i hi hx => (k.block i (Nat.lt_of_lt_of_le hi h.size) hx).trans (h.block i hi hx)⟩
theorem Turns.trans' {X Y : Nat → Prop} {A B C : World} (h : Turns X A B) (k : Turns Y B C) (hY : ∀ i,Y i → X i ∨ A.heap.size ≤ i) : Turns X A C :=
 ⟨k.os.trans h.os,k.tape.trans h.tape,k.output.trans h.output,Nat.le_trans h.size k.size,fun i hi hx =>
  (k.block i (Nat.lt_of_lt_of_le hi h.size) (fun hy => (hY i hy).elim hx (fun h' => by omega))).trans (h.block i hi hx)⟩
theorem Turns.mono {X Y : Nat → Prop} {A B : World} (h : Turns X A B) (hY : ∀ i,X i → Y i) : Turns Y A B :=
 ⟨h.os,h.tape,h.output,h.size,fun i hi hy => h.block i hi (fun hx => hy (hY i hx))⟩
theorem Turns.alloc (X : Nat → Prop) (W : World) (o : Obj) : Turns X W (W.alloc o) :=
 ⟨rfl,rfl,rfl,by simp,fun k hk _ => Below.heap_alloc _ _ _ hk⟩
theorem Turns.setCell {X : Nat → Prop} (W : World) {p : Addr} (hp : X p.block) (u : Value) : Turns X W (W.setCell p u) :=
 ⟨rfl,rfl,rfl,by simp,fun k _ hk => Below.heap_setCell _ _ _ _ (fun e => hk (e ▸ hp))⟩
theorem Turns.putObj {X : Nat → Prop} (W : World) {r : Nat} (hp : X r) (o : Obj) : Turns X W (W.putObj r o) :=
 ⟨rfl,rfl,rfl,by simp,fun k _ hk => World.putObj_heap_other (fun e => hk (e ▸ hp))⟩
theorem Turns.drew (X : Nat → Prop) (W : World) : Turns X W W.drew := ⟨rfl,rfl,rfl,Nat.le_refl _,fun _ _ _ => rfl⟩
theorem Turns.drewN (X : Nat → Prop) (W : World) (n : Nat) : Turns X W (W.drewN n) := ⟨rfl,rfl,rfl,Nat.le_refl _,fun _ _ _ => rfl⟩
theorem Turns.below {X : Nat → Prop} {W W' : World} (h : Turns X W W') {n : Nat} (hn : n ≤ W.heap.size) (hX : ∀ k,X k → n ≤ k) : Below n W W' :=
 ⟨h.os,h.tape,h.output,h.size,fun k hk => h.block k (by omega) (fun hx => by have := hX k hx; omega)⟩
theorem Turns.of_below {W W' : World} (h : Below W.heap.size W W') : Turns Noth W W' := ⟨h.os,h.tape,h.output,h.size,fun k hk _ => h.block k hk⟩

structure Keeps (X : Nat → Prop) (W W' : World) : Prop where
 size : W.heap.size ≤ W'.heap.size
 block : ∀ k,X k → k < W.heap.size → W'.heap[k]? = W.heap[k]?

theorem Keeps.trans {X : Nat → Prop} {A B C : World} (h : Keeps X A B) (k : Keeps X B C) : Keeps X A C :=
 ⟨Nat.le_trans h.size k.size,fun i hx hi => (k.block i hx (Nat.lt_of_lt_of_le hi h.size)).trans (h.block i hx hi)⟩
theorem Keeps.mono {X Y : Nat → Prop} {A B : World} (h : Keeps X A B) (hY : ∀ i,Y i → X i) : Keeps Y A B := ⟨h.size,fun k hk hs => h.block k (hY k hk) hs⟩
theorem Keeps.of_turns {X Y : Nat → Prop} {A B : World} (h : Turns Y A B) (hd : ∀ k,X k → ¬ Y k) : Keeps X A B := ⟨h.size,fun k hk hs => h.block k hs (hd k hk)⟩
theorem Keeps.get {X : Nat → Prop} {A B : World} (h : Keeps X A B) {k : Nat} {o : Obj} (hx : X k) (ho : A.heap[k]? = some o) : B.heap[k]? = some o :=
 (h.block k hx (Array.getElem?_eq_some_iff.1 ho).1).trans ho

def Steady (J : Nat → (Nat → Prop) → World → Prop) : Prop :=
 ∀ (i : Nat) (X X' : Nat → Prop) (W W' : World),J i X W → Turns X W W' → (∀ k,X' k → X k ∨ (W.heap.size ≤ k ∧ k < W'.heap.size)) → J i X' W'

def Gives (P : Program) (g : Nat) (lb : Array Value) (N : Nat) (enc : Nat → Array Value) (R : World → Prop) : Prop :=
 ∀ (l : Nat) (J Jx : Nat → (Nat → Prop) → World → Prop) (W : World), Steady J → Steady Jx → (∀ i X W, J i X W → R W) →
  (∀ (i : Nat) (X : Nat → Prop) (W1 : World),i < N → J i X W1 → YieldAt Fence.wide 0 P l (enc i) W1 fun e W' => Keeps X W1 W' ∧
   ((e = .returned (.bool true) ∧ J (i + 1) X W') ∨ (e = .returned (.bool false) ∧ Jx i X W'))) →
  J 0 Noth W →
  Calls P g (#[.func (.yield l) #[] #[]] ++ lb) W fun e W' => (∃ v,e = .returned v) ∧ (J N Noth W' ∨ ∃ i,i < N ∧ Jx i Noth W')

def leftBy (I : Nat → (Nat → Prop) → World → Prop) (Ix : Code → Nat → (Nat → Prop) → World → Prop) (i : Nat) (X : Nat → Prop) (W : World) : Exit → Act → World → Prop
 | .normal,_,W' => Keeps X W W' ∧ I (i + 1) X W'
 | .ret,_,W' => Keeps X W W' ∧ Ix .ret i X W'
 | .exit id,_,W' => Keeps X W W' ∧ Ix (.exit id) i X W'
 | .goto t,_,W' => Keeps X W W' ∧ Ix (.goto t) i X W'
 | .panic _,_,_ => False
 | .outgrown,_,_ => False

theorem wp_range {P : Program} {g : Operand} {ps : Array Tmp} {assign body : Code} {Q : Exit → Act → World → Prop} {a : Act} {w : World} {gf : Nat} {lb : Array Value}
  (hg : a.eval g = .func (.func gf) #[] lb) (eg : ∀ args w,(callFunc gf args).run P w = .ok (.enter gf args) w)
  {N : Nat} {enc : Nat → Array Value} {R : World → Prop} (hseq : Gives P gf lb N enc R) (hps : ∀ i,(enc i).size = ps.size)
  (I : Nat → (Nat → Prop) → World → Prop) (Ix : Code → Nat → (Nat → Prop) → World → Prop) (Ia : Act → Nat → (Nat → Prop) → World → Prop)
  (hI : Steady I) (hIx : ∀ c,Steady (Ix c)) (hIa : ∀ a',Steady (Ia a')) (hR : ∀ i X W,I i X W → R W) (h0 : I 0 Noth w)
  (hassign : ∀ (l i : Nat) (X : Nat → Prop) (W : World) (K : Act → World → Prop),i < N → I i X W → (∀ a' W',Keeps X W W' → Ia a' i X W' → K a' W') →
   assign.wpIn (Fence.wide.inRound l) 0 P (Exit.then K (fun _ _ _ => False)) { tmps := (ps.zip (enc i)).foldl (fun t (p,v) => t.setIfInBounds p v) a.tmps,defers := [] } W)
  (hbody : ∀ (l i : Nat) (X : Nat → Prop) (a' : Act) (W : World),i < N → Ia a' i X W → body.wpIn (Fence.wide.inRound l) 0 P (leftBy I Ix i X W) a' W)
  (hdone : ∀ (D : Nat) (W : World),w.heap.size ≤ D → I N (fun k => k = D) W → W.heap[D]? = some (.deferred (some [])) → Q .normal { a with defers := { target := .collected D,args := #[] } :: a.defers } W)
  (hstop : ∀ (D : Nat) (c : Code) (i : Nat) (W : World),w.heap.size ≤ D → i < N → Ix c i (fun k => k = D) W → W.heap[D]? = some (.deferred (some [])) → c.wpIn Fence.wide 0 P Q { a with defers := { target := .collected D,args := #[] } :: a.defers } W) :
  (Code.rangeFunc g ps assign body).wpIn Fence.wide 0 P Q a w := by
 refine wpIn_rangeFunc ?_
 intro fn hfn
 obtain ⟨rec,hrec⟩ : ∃ rec : LoopState → Option Code → Loop,rec = fun st pe => { state := st,pending := pe,fn,tmps := a.tmps,params := ps,assign,body,defers := w.heap.size } := ⟨_,rfl⟩
 obtain ⟨D,hD⟩ : ∃ D,D = w.heap.size := ⟨_,rfl⟩
 obtain ⟨l,hl⟩ : ∃ l,l = w.heap.size + 1 := ⟨_,rfl⟩
 obtain ⟨W1,hW1⟩ : ∃ W1,(w.alloc (.deferred (some []))).alloc (.loop (rec .ready none)) = W1 := ⟨_,rfl⟩
 have hL1 : W1.heap[l]? = some (.loop (rec .ready none)) := by
  rw [← hW1,hl]; have := World.alloc_heap_new (w.alloc (.deferred (some []))) (.loop (rec .ready none)); rwa [World.size_alloc] at this
 have hK1 : W1.heap[D]? = some (.deferred (some [])) := by
  rw [← hW1,hD]; exact (Below.heap_alloc _ _ _ (by simp)).trans (World.alloc_heap_new w _)
 have hT1 : Turns Noth w W1 := by rw [← hW1]; exact (Turns.alloc _ _ _).trans (Turns.alloc _ _ _)
 refine ⟨l,[{ target := .collected D,args := #[] }],W1,{ target := .fn (.func gf) lb,args := #[.func (.yield l) #[] #[]] },W1,gf,#[.func (.yield l) #[] #[]] ++ lb,W1,?_,?_,?_,?_,(fun h => (by cases h)),?_⟩
 ·rw [← hW1,hrec,hl,hD]; exact run_enterLoop_outer _ _ _ _ _
 ·simp only [resolve,hg]
  simp [go_sem]
 ·intro f' _; trivial
 ·simp [invoke,go_sem,eg]
 ·have hDl : D ≠ l := by omega
  refine callsIn_wide.2 ((hseq l
   (fun i X W => I i (fun k => X k ∨ k = l ∨ k = D) W ∧ W.heap[l]? = some (.loop (rec .ready none)) ∧ W.heap[D]? = some (.deferred (some [])) ∧ ¬ X l ∧ ¬ X D)
   (fun i X W => ∃ c,Ix c i (fun k => X k ∨ k = l ∨ k = D) W ∧ W.heap[l]? = some (.loop (rec .done (some c))) ∧ W.heap[D]? = some (.deferred (some [])) ∧ ¬ X l ∧ ¬ X D)
   W1 ?_ ?_ (fun i X W h => hR _ _ _ h.1) ?_ ⟨?_,hL1,hK1,fun h => h,fun h => h⟩).mono ?_)
  ·rintro i X X' A B ⟨hi,hla,hda,hxl,hxd⟩ ht hx
   have sl := (Array.getElem?_eq_some_iff.1 hla).1
   have sd := (Array.getElem?_eq_some_iff.1 hda).1
   refine ⟨hI i _ _ A B hi (ht.mono (fun _ h => .inl h)) ?_,(ht.block l sl hxl).trans hla,(ht.block D sd hxd).trans hda,?_,?_⟩
   ·rintro k (h | h)
    ·exact (hx k h).elim (fun h => .inl (.inl h)) .inr
    ·exact .inl (.inr h)
   ·intro h; exact (hx l h).elim hxl (fun h => by omega)
   ·intro h; exact (hx D h).elim hxd (fun h => by omega)
  ·rintro i X X' A B ⟨c,hi,hla,hda,hxl,hxd⟩ ht hx
   have sl := (Array.getElem?_eq_some_iff.1 hla).1
   have sd := (Array.getElem?_eq_some_iff.1 hda).1
   refine ⟨c,hIx c i _ _ A B hi (ht.mono (fun _ h => .inl h)) ?_,(ht.block l sl hxl).trans hla,(ht.block D sd hxd).trans hda,?_,?_⟩
   ·rintro k (h | h)
    ·exact (hx k h).elim (fun h => .inl (.inl h)) .inr
    ·exact .inl (.inr h)
   ·intro h; exact (hx l h).elim hxl (fun h => by omega)
   ·intro h; exact (hx D h).elim hxd (fun h => by omega)
  ·-- one round
   rintro i X W hiN ⟨hi,hlw,hdw,hxl,hxd⟩
   have hy := run_yield (P := P) (args := enc i) hlw (by rw [hrec]; exact hps i)
   rw [hrec] at hy
   refine ⟨fn,_,assign,body,hy,roundIn_of_wpIn hfn (hassign l i _ W _ hiN hi ?_)⟩
   clear hy
   intro a' Wa hka hia
   have hla := hka.get (.inr (.inl rfl)) hlw
   have hda := hka.get (.inr (.inr rfl)) hdw
   have sla := (Array.getElem?_eq_some_iff.1 hla).1
   refine ⟨_,run_beginRound hla (by rw [hrec]),?_⟩
   obtain ⟨Wb,hWb⟩ : ∃ Wb,Wa.putObj l (.loop { rec .ready none with state := .busy }) = Wb := ⟨_,rfl⟩
   rw [hWb]
   have hlb : Wb.heap[l]? = some (.loop { rec .ready none with state := .busy }) := by rw [← hWb]; exact World.putObj_heap_same sla
   have hdb : Wb.heap[D]? = some (.deferred (some [])) := by rw [← hWb]; exact (World.putObj_heap_other hDl).trans hda
   have hib : Ia a' i (fun k => X k ∨ k = l ∨ k = D) Wb := by
    rw [← hWb]; exact hIa a' i _ _ Wa _ hia (Turns.putObj Wa (.inr (.inl rfl)) _) (fun k h => .inl h)
   have hkb : Keeps X W Wb := by
    rw [← hWb]; exact (hka.mono (fun _ h => .inl h)).trans (Keeps.of_turns (Turns.putObj (X := fun k => k = l) Wa rfl _) (fun k hk e => hxl (e ▸ hk)))
   refine wpIn_mono (hbody l i _ a' Wb hiN hib) ?_
   have fin : ∀ (jump : Option Code) (W3 : World),Keeps (fun k => X k ∨ k = l ∨ k = D) Wb W3 →
     (Instr.endRound l jump).run P W3 = .ok (.bool jump.isNone) (W3.putObj l (.loop (rec (if jump.isNone then .ready else .done) jump))) ∧
     (W3.putObj l (.loop (rec (if jump.isNone then .ready else .done) jump))).heap[l]? = some (.loop (rec (if jump.isNone then .ready else .done) jump)) ∧
     (W3.putObj l (.loop (rec (if jump.isNone then .ready else .done) jump))).heap[D]? = some (.deferred (some [])) ∧
     Keeps X W (W3.putObj l (.loop (rec (if jump.isNone then .ready else .done) jump))) := fun jump W3 hk3 => by
    have hl3 := hk3.get (.inr (.inl rfl)) hlb
    have hd3 := hk3.get (.inr (.inr rfl)) hdb
    have := run_endRound (P := P) jump hl3
    rw [hrec] at this ⊢
    exact ⟨this,World.putObj_heap_same (Array.getElem?_eq_some_iff.1 hl3).1,(World.putObj_heap_other hDl).trans hd3,
     (hkb.trans (hk3.mono (fun _ h => .inl h))).trans (Keeps.of_turns (Turns.putObj (X := fun k => k = l) W3 rfl _) (fun k hk e => hxl (e ▸ hk)))⟩
   rintro e a3 W3 hp
   cases e with
   | normal =>
    obtain ⟨hk3,hi3⟩ := hp
    obtain ⟨hr,hl4,hd4,hk4⟩ := fin none W3 hk3
    exact ⟨_,_,hr,hk4,.inl ⟨rfl,hI _ _ _ _ _ hi3 (Turns.putObj W3 (.inr (.inl rfl)) _) (fun k h => .inl h),hl4,hd4,hxl,hxd⟩⟩
   | ret =>
    obtain ⟨hk3,hi3⟩ := hp
    obtain ⟨hr,hl4,hd4,hk4⟩ := fin (some .ret) W3 hk3
    exact ⟨_,_,hr,hk4,.inr ⟨rfl,.ret,hIx _ _ _ _ _ _ hi3 (Turns.putObj W3 (.inr (.inl rfl)) _) (fun k h => .inl h),hl4,hd4,hxl,hxd⟩⟩
   | exit id =>
    obtain ⟨hk3,hi3⟩ := hp
    obtain ⟨hr,hl4,hd4,hk4⟩ := fin (some (.exit id)) W3 hk3
    exact ⟨_,_,hr,hk4,.inr ⟨rfl,.exit id,hIx _ _ _ _ _ _ hi3 (Turns.putObj W3 (.inr (.inl rfl)) _) (fun k h => .inl h),hl4,hd4,hxl,hxd⟩⟩
   | goto t =>
    obtain ⟨hk3,hi3⟩ := hp
    obtain ⟨hr,hl4,hd4,hk4⟩ := fin (some (.goto t)) W3 hk3
    exact ⟨_,_,hr,hk4,.inr ⟨rfl,.goto t,hIx _ _ _ _ _ _ hi3 (Turns.putObj W3 (.inr (.inl rfl)) _) (fun k h => .inl h),hl4,hd4,hxl,hxd⟩⟩
   | panic ch => exact hp.elim
   | outgrown => exact hp.elim
  ·have s1 := (Array.getElem?_eq_some_iff.1 hL1).1
   exact hI 0 Noth _ w W1 h0 hT1 (fun k h => by rcases h with h | h | h; exact h.elim; exact .inr (by omega); exact .inr (by omega))
  ·-- behind the iterator
   rintro e W2 ⟨⟨v,rfl⟩,(⟨hi,hl2,hd2,_,_⟩ | ⟨i,hiN,c,hi,hl2,hd2,_,_⟩)⟩
   ·refine ⟨none,_,by have := run_endLoop (P := P) hl2 (by rw [hrec]; simp); rw [hrec] at this; exact this,?_⟩
    exact hdone D _ (by omega) (hI N _ _ W2 _ hi (Turns.putObj W2 (.inr (.inl rfl)) _) (fun k h => .inl (.inr (.inr h)))) ((World.putObj_heap_other hDl).trans hd2)
   ·refine ⟨some c,_,by have := run_endLoop (P := P) hl2 (by rw [hrec]; simp); rw [hrec] at this; exact this,?_⟩
    exact hstop D c i _ (by omega) hiN (hIx c i _ _ W2 _ hi (Turns.putObj W2 (.inr (.inl rfl)) _) (fun k h => .inl (.inr (.inr h)))) ((World.putObj_heap_other hDl).trans hd2)

structure Base (w₁ : World) (own X : Nat → Prop) (W : World) : Prop where
 turns : Turns own w₁ W
 young : ∀ k,X k → w₁.heap.size ≤ k ∧ k < W.heap.size

theorem Base.step {w₁ W W' : World} {own X X' : Nat → Prop} (h : Base w₁ own X W) (ht : Turns X W W') (hx : ∀ k,X' k → X k ∨ (W.heap.size ≤ k ∧ k < W'.heap.size)) : Base w₁ own X' W' :=
 ⟨h.turns.trans' ht (fun k hk => .inr (h.young k hk).1),fun k hk => by
  have s1 := h.turns.size
  have s2 := ht.size
  rcases hx k hk with h' | h'
  ·have := h.young k h'; omega
  ·omega⟩
theorem Base.keep {w₁ W W' : World} {own X : Nat → Prop} (h : Base w₁ own X W) (ht : Turns X W W') {k : Nat} (hk : k < w₁.heap.size) : W'.heap[k]? = W.heap[k]? :=
 ht.block k (Nat.lt_of_lt_of_le hk h.turns.size) (fun hx => by have := h.young k hx; omega)
theorem Base.start (w₁ : World) (own : Nat → Prop) : Base w₁ own Noth w₁ := ⟨Turns.refl _ _,fun _ h => h.elim⟩
theorem Base.fresh {w₁ W : World} {own X : Nat → Prop} (h : Base w₁ own X W) : ¬ X W.heap.size := fun hx => by have := h.young _ hx; omega
theorem Base.alloc {w₁ W : World} {own X : Nat → Prop} (h : Base w₁ own X W) (o : Obj) : Base w₁ own X (W.alloc o) :=
 h.step (Turns.alloc _ _ _) (fun _ h => .inl h)
theorem Keeps.alloc (X : Nat → Prop) (W : World) (o : Obj) : Keeps X W (W.alloc o) := Keeps.of_turns (Turns.alloc Noth W o) (fun _ _ h => h)
theorem Steady.and {I J : Nat → (Nat → Prop) → World → Prop} (h : Steady I) (k : Steady J) : Steady (fun i X W => I i X W ∧ J i X W) :=
 fun i X X' W W' hs ht hx => ⟨h i X X' W W' hs.1 ht hx,k i X X' W W' hs.2 ht hx⟩
theorem steady_round (a' : Act) (o : Nat → Obj) (mk : Nat → Nat → Act) : Steady (fun i X W => ∃ B,¬ X B ∧ W.heap[B]? = some (o i) ∧ a' = mk i B) :=
 fun _ _ _ _ _ hs ht hx => by
  obtain ⟨B,hB,ho,hp⟩ := hs
  have hlt := (Array.getElem?_eq_some_iff.1 ho).1
  exact ⟨B,fun h => (hx B h).elim hB (fun h => by omega),(ht.block B hlt hB).trans ho,hp⟩
theorem steady_never : Steady (fun _ _ _ => False) := fun _ _ _ _ _ hs _ _ => hs

theorem below_end {w w₁ W : World} {own : Nat → Prop} {D : Nat} (h1 : Turns Noth w w₁) (hb : Base w₁ own (fun k => k = D) W) (ho : ∀ k,own k → w.heap.size ≤ k) (o : Obj) : Below w.heap.size w (W.putObj D o) := by
 have hD := (hb.young D rfl).1
 have s1 := h1.size
 refine Turns.below (X := fun k => w.heap.size ≤ k) ?_ (Nat.le_refl _) (fun _ h => h)
 exact ((h1.mono (fun _ h => h.elim)).trans (hb.turns.mono ho)).trans (Turns.putObj W (by omega) o)

end Go.Proofs.YtlgcnbomfhmjiaaGreatDoor

namespace Go.Proofs.YtlgcnbomfhmjiaaGreatDoor
open Go.RowKit

theorem run_append_where {P : Program} (w : World) (base : Nat) (t ty e : TypeId) (i : TypeInfo) (z : Value) (size bytes : Nat) (ht : P.underlying t = some (.slice e)) (hi : P.info? e = some i) (hz : i.zero = some z)
  (hsize : i.size = size) (hby : i.bytes = bytes) (hzs : z.cells.size = size) (hsz : 0 < size)
  (v : Value) (n : Nat) (xs : List Value) (hown : w.ownsRow base e size v n xs)
  (a : Addr) (m c : Nat) (news : List Value) (hl : news.length = m * size) (hnews : ∀ j u,news[j]? = some u → w.cell? (a.add j) = some u) (h1 : ∀ u ∈ news,u.oneCell' = true)
  (h63 : n + m ≤ maxLen) (hbytes : (n + m) * bytes ≤ 140737488355328) (hbase : base ≤ w.heap.size) :
  ∃ v' w',(Builtin.append_ #[t,t] ty #[v,.slice (some a) m c]).run P w = .ok v' w' ∧ w'.ownsRow base e size v' (n + m) (xs ++ news) ∧ w.grownBy w' v.ownBlock ∧
   (v'.ownBlock = v.ownBlock ∨ ∀ g,v'.ownBlock = some g → w.heap.size ≤ g) := by
 obtain ⟨v',w',hrun,r1,r2,_⟩ := run_append_own (P := P) w base t ty e i z size bytes ht hi hz hsize hby hzs hsz v n xs hown a m c news hl hnews h1 h63 hbytes hbase
 refine ⟨v',w',hrun,r1,r2,?_⟩
 rcases hown.2 with ⟨rfl,rfl⟩ | ⟨g,cap,cur,rfl,hbg,hg,hnc,hcm,hcs,htake⟩
 ·have hx : xs = [] := List.eq_nil_of_length_eq_zero (by simpa using hown.1)
  subst hx
  obtain ⟨v2,w2,hrun2,q1,_,_⟩ := run_append_own (P := P) w w.heap.size t ty e i z size bytes ht hi hz hsize hby hzs hsz _ 0 [] (World.ownsRow_nil w _ e size) a m c news hl hnews h1 h63 hbytes (Nat.le_refl _)
  rw [hrun] at hrun2
  injection hrun2 with e1 e2
  subst e1 e2
  exact .inr (fun g hg => (q1.lt g hg).1)
 ·subst hsize
  subst hby
  have hsmall : n + m ≤ 9223372036854775807 := by simp only [maxLen] at h63; omega
  by_cases hroom : n + m ≤ cap
  ·have hfit : n * i.size + news.length ≤ cur.size := by rw [hl,hcs,← Nat.add_mul]; exact Nat.mul_le_mul_right _ hroom
   have hr := run_append_room (P := P) w t ty e i ht hi g n cap cur hg a m c news hl hnews h1 hroom hfit
   rw [hrun] at hr
   injection hr with e1 e2
   exact .inl (by rw [e1]; rfl)
  ·have holds : ∀ j u,xs[j]? = some u → w.cell? ((⟨g,0,none⟩ : Addr).add j) = some u := hown.cells (g := g) rfl
   have hr := run_append_grow (P := P) w t ty e i z ht hi hz ⟨g,0,none⟩ n cap xs hown.1 holds a m c news hl hnews (by omega) (by omega) (growslice_fits (by omega) hbytes)
   rw [hrun] at hr
   injection hr with e1 e2
   exact .inr (fun k hk => by rw [e1] at hk; cases hk; exact Nat.le_refl _)

theorem wpListIn_append_where {F : Fence} {n : Nat} {P : Program} (w : World) {ops : Array Oper} {rest : List Oper} {o : Oper} {a : Act} {Q : Exit → Act → World → Prop}
  (hg : o.guard = none) (s x : Operand) (t : TypeId) (hop : o.op = Op.call { callee := Callee.builtin Builtin.append,args := #[s,x],argTypes := #[t,t] })
  (base : Nat) (e : TypeId) (i : TypeInfo) (z : Value) (size bytes : Nat) (h1 : P.underlying t = some (.slice e)) (h2 : P.info? e = some i) (h3 : i.zero = some z) (h4 : i.size = size) (h5 : i.bytes = bytes) (h6 : z.cells.size = size) (h7 : 0 < size)
  (v : Value) (k : Nat) (xs : List Value) (hs : a.eval s = v) (hown : w.ownsRow base e size v k xs) (ad : Addr) (m c : Nat) (news : List Value) (hx : a.eval x = .slice (some ad) m c) (hn : news.length = m * size)
  (hc : ∀ j u,news[j]? = some u → w.cell? (ad.add j) = some u) (h1c : ∀ u ∈ news,u.oneCell' = true) (b1 : k + m ≤ maxLen) (b2 : (k + m) * bytes ≤ 140737488355328) (b3 : base ≤ w.heap.size)
  (hK : ∀ v' w',w'.ownsRow base e size v' (k + m) (xs ++ news) → w.grownBy w' v.ownBlock → (v'.ownBlock = v.ownBlock ∨ ∀ g,v'.ownBlock = some g → w.heap.size ≤ g) → wpListIn F n P ops Q rest (a.put o.dst v') w') :
  wpListIn F n P ops Q (o :: rest) a w := by
 refine wpListIn_plain hg fun K hK' => ?_
 obtain ⟨v',w',hrun,r1,r2,r3⟩ := run_append_where (P := P) w base t o.type e i z size bytes h1 h2 h3 h4 h5 h6 h7 v k xs hown ad m c news hn hc h1c b1 b2 b3
 unfold Oper.wpIn
 refine ⟨?_,?_⟩
 ·simp [Oper.about,hop,resolve,Target.leads,Sem.run_pure]
 ·rw [Oper.semAt_plain F _ _ (by rw [hop]; intro c hc'; cases hc')]
  simp [execOp,hop,resolve,invoke,builtin,hs,hx,hrun,Result.andThen]
  exact hK' _ _ (hK v' w' r1 r2 r3)

theorem ownsRow_turns {W W' : World} {X : Nat → Prop} {base : Nat} {e : TypeId} {size : Nat} {v : Value} {n : Nat} {xs : List Value} (h : W.ownsRow base e size v n xs) (ht : Turns X W W') (hX : ∀ g,v.ownBlock = some g → ¬ X g) : W'.ownsRow base e size v n xs := by
 refine ⟨h.1,?_⟩
 rcases h.2 with hn | ⟨g,cap,cur,rfl,hb,hg,r⟩
 ·exact .inl hn
 ·exact .inr ⟨g,cap,cur,rfl,hb,(ht.block g (Array.getElem?_eq_some_iff.1 hg).1 (hX g rfl)).trans hg,r⟩

theorem ownsRow_base {W : World} {base base' : Nat} {e : TypeId} {size : Nat} {v : Value} {n : Nat} {xs : List Value} (h : W.ownsRow base e size v n xs) (hb : base' ≤ base) : W.ownsRow base' e size v n xs := by
 refine ⟨h.1,?_⟩
 rcases h.2 with hn | ⟨g,cap,cur,rfl,hb',r⟩
 ·exact .inl hn
 ·exact .inr ⟨g,cap,cur,rfl,by omega,r⟩

theorem steady_row {w₁ : World} {own : Nat → Prop} {B : Nat} (hB : B < w₁.heap.size) (base : Nat) (t e : TypeId) (sz : Nat) (k : Nat → Nat) (xs : Nat → List Value) :
  Steady (fun i X W => Base w₁ own X W ∧ ∃ v,W.heap[B]? = some (.cells #[v] t) ∧ W.ownsRow base e sz v (k i) (xs i) ∧ ∀ g,v.ownBlock = some g → ¬ X g) :=
 fun _ X X' W W' hs ht hx => by
  obtain ⟨hb,v,hv,hr,hg⟩ := hs
  refine ⟨hb.step ht hx,v,(hb.keep ht hB).trans hv,ownsRow_turns hr ht hg,fun g h h' => ?_⟩
  have := (hr.lt g h).2
  exact (hx g h').elim (hg g h) (fun h => by omega)

theorem append_step {W w2 w₁ : World} {X : Nat → Prop} {B : Nat} {t e : TypeId} {sz : Nat} {v v' : Value} {k m : Nat} {xs ys : List Value} {tmp : Obj} (hb : Base w₁ (fun k => k = B) X W) (hB : B < w₁.heap.size) (hv : W.heap[B]? = some (.cells #[v] t)) (hte : t ≠ e)
  (hrow : W.ownsRow w₁.heap.size e sz v k xs) (hg : ∀ g,v.ownBlock = some g → ¬ X g) (hown' : w2.ownsRow w₁.heap.size e sz v' m ys) (hgrow : (W.alloc tmp).grownBy w2 v.ownBlock)
  (hwh : v'.ownBlock = v.ownBlock ∨ ∀ g,v'.ownBlock = some g → (W.alloc tmp).heap.size ≤ g) :
  Boxed w2 B t v ∧ Keeps X W (w2.setCell ⟨B,0,none⟩ v') ∧ Base w₁ (fun k => k = B) X (w2.setCell ⟨B,0,none⟩ v') ∧ (w2.setCell ⟨B,0,none⟩ v').heap[B]? = some (.cells #[v'] t) ∧ (w2.setCell ⟨B,0,none⟩ v').ownsRow w₁.heap.size e sz v' m ys ∧ ∀ g,v'.ownBlock = some g → ¬ X g := by
 have hv0 : Boxed W B t v := hv
 have hne : some B ≠ v.ownBlock := hv0.not_row hte hrow
 have hv1 : Boxed w2 B t v := (hv0.alloc tmp).kept hgrow hne
 have hs1 := hb.turns.size
 have hs2 := hgrow.size
 have hblk : ∀ k,k < W.heap.size → k ≠ B → some k ≠ v.ownBlock → (w2.setCell ⟨B,0,none⟩ v').heap[k]? = W.heap[k]? := fun k hk hkB hkv =>
  (Below.heap_setCell _ _ _ k hkB).trans ((hgrow.block k (by simp; omega) hkv).trans (Below.heap_alloc _ _ _ hk))
 simp only [World.size_alloc] at hs2 hwh
 refine ⟨hv1,⟨by simp; omega,fun k hx hk => hblk k hk (fun e => by have := (hb.young k hx).1; omega) (fun e => hg k e.symm hx)⟩,⟨⟨?_,?_,?_,by simp; omega,fun k hk ho => ?_⟩,fun k hk => by have := hb.young k hk; simp; omega⟩,Boxed.set v' hv1,hown'.kept (grownBy_setCell' w2 B v') (.inr (hv1.not_row hte hown').symm),fun g h hx => ?_⟩
 ·exact hgrow.os.trans hb.turns.os
 ·exact hgrow.tape.trans hb.turns.tape
 ·exact hgrow.output.trans hb.turns.output
 ·exact (hblk k (by omega) ho (fun e => by have := (hrow.lt k e.symm).1; omega)).trans (hb.turns.block k hk ho)
 ·rcases hwh with h' | h'
  ·exact hg g (h' ▸ h) hx
  ·have := h' g h; have := (hb.young g hx).2; omega

end Go.Proofs.YtlgcnbomfhmjiaaGreatDoor

namespace Go.Proofs.YtlgcnbomfhmjiaaGreatDoor
open Go.RowKit

theorem ownsRow_below {W W' : World} {base : Nat} {e : TypeId} {size : Nat} {v : Value} {n : Nat} {xs : List Value} (h : W.ownsRow base e size v n xs) (hb : Below W.heap.size W W') : W'.ownsRow base e size v n xs := by
 refine ⟨h.1,?_⟩
 rcases h.2 with hn | ⟨g,cap,cur,rfl,hb',hg,r⟩
 ·exact .inl hn
 ·exact .inr ⟨g,cap,cur,rfl,hb',(hb.block g (Array.getElem?_eq_some_iff.1 hg).1).trans hg,r⟩


theorem addr_add0 (b j : Nat) : (⟨b,0,none⟩ : Addr).add j = ⟨b,j,none⟩ := by
 unfold Addr.add; split
 ·rename_i h; rw [h]
 ·simp
theorem addr_add (b o j : Nat) : (⟨b,o,none⟩ : Addr).add j = ⟨b,o + j,none⟩ := by
 unfold Addr.add; split
 ·rename_i h; rw [h]; rfl
 ·simp

def Srcs (W : World) (size : Nat) (x : Value) (m : Nat) (news : List Value) : Prop :=
 news.length = m * size ∧ (∀ u ∈ news,u.oneCell' = true) ∧ ((m = 0 ∧ ∃ c,x = .slice none 0 c) ∨ ∃ a c,x = .slice (some a) m c ∧ ∀ j u,news[j]? = some u → W.cell? (a.add j) = some u)

end Go.Proofs.YtlgcnbomfhmjiaaGreatDoor

namespace Go.Proofs.YtlgcnbomfhmjiaaGreatDoor
open Go.RowKit Go.Shelf

theorem fm_len {α : Type} {k : Nat} {f : α → List Value} (hf : ∀ a,(f a).length = k) (l : List α) : (l.flatMap f).length = l.length * k := by
 induction l with
 | nil => simp
 | cons p r ih => rw [List.flatMap_cons,List.length_append,ih,hf,List.length_cons,Nat.succ_mul]; omega
theorem fm_get {α : Type} {k : Nat} {f : α → List Value} (hf : ∀ a,(f a).length = k) (ps : List α) {i : Nat} (h : i < ps.length) (j : Nat) (hj : j < k) : (ps.flatMap f)[i * k + j]? = (f ps[i])[j]? := by
 have hs : ps = ps.take i ++ (ps[i] :: ps.drop (i + 1)) := by simp
 conv => lhs; rw [hs]
 have hl : ((ps.take i).flatMap f).length = i * k := by rw [fm_len hf,List.length_take,Nat.min_eq_left (by omega)]
 rw [List.flatMap_append,List.flatMap_cons,List.getElem?_append_right (by omega),hl,List.getElem?_append_left (by rw [hf]; omega)]
 congr 1; omega
structure RecAt {α : Type} (k : Nat) (f : α → List Value) (W : World) (v : Value) (rs : List α) : Prop where
 ex : ∃ a cap,v = .slice a rs.length cap ∧ (rs = [] ∨ ∃ b o,a = some ⟨b,o,none⟩ ∧ b < W.heap.size ∧ ∀ (i : Nat) (h : i < rs.length) (j : Nat) (u : Value),(f rs[i])[j]? = some u → W.cell? ⟨b,o + i * k + j,none⟩ = some u)
 le : ∀ a n c,v = .slice a n c → n ≤ c
theorem RecAt.below {α : Type} {k : Nat} {f : α → List Value} {W W' : World} {n : Nat} {v : Value} {rs : List α} (h : RecAt k f W v rs) (hb : Below n W W') (hn : W.heap.size ≤ n) : RecAt k f W' v rs := by
 have hle := h.le
 obtain ⟨a,cap,rfl,h2⟩ := h.ex
 refine ⟨⟨a,cap,rfl,?_⟩,hle⟩
 rcases h2 with h2 | ⟨b,o,rfl,hlt,hc⟩
 ·exact .inl h2
 ·exact .inr ⟨b,o,rfl,Nat.lt_of_lt_of_le hlt hb.size,fun i hi j u hu => (hb.cell (Nat.lt_of_lt_of_le hlt hn)).trans (hc i hi j u hu)⟩
theorem rec_of_row {α : Type} {k : Nat} {f : α → List Value} (hf : ∀ a,(f a).length = k) {W : World} {base : Nat} {e : TypeId} {v : Value} {rs : List α} {n : Nat} (hn : n = rs.length) (h : W.ownsRow base e k v n (rs.flatMap f)) : RecAt k f W v rs := by
 subst hn
 rcases h.2 with ⟨rfl,hn⟩ | ⟨g,cap,cur,rfl,hb',hg,hnc,_⟩
 ·have : rs = [] := List.eq_nil_of_length_eq_zero hn
  exact ⟨⟨none,0,by rw [hn],.inl this⟩,fun a n c e => by cases e; exact Nat.le_refl _⟩
 ·refine ⟨⟨_,cap,rfl,.inr ⟨g,0,rfl,(Array.getElem?_eq_some_iff.1 hg).1,fun i hi j u hu => ?_⟩⟩,fun a n c e => by cases e; exact hnc⟩
  have hj : j < k := by rw [← hf rs[i]]; exact (List.getElem?_eq_some_iff.1 hu).1
  have hc := h.cells (g := g) rfl (i * k + j) u (by rw [fm_get hf rs hi j hj,hu])
  rw [addr_add0] at hc
  rw [Nat.zero_add]
  exact hc
theorem rec_new {α : Type} {k : Nat} {f : α → List Value} (hf : ∀ a,(f a).length = k) (w : World) (e : TypeId) (rs : List α) : RecAt k f (w.alloc (.cells (rs.flatMap f).toArray e)) (.slice (some ⟨w.heap.size,0,none⟩) rs.length rs.length) rs := by
 refine ⟨⟨_,_,rfl,.inr ⟨_,0,rfl,by simp,fun i hi j u hu => ?_⟩⟩,fun a n c e => by cases e; exact Nat.le_refl _⟩
 have hj : j < k := by rw [← hf rs[i]]; exact (List.getElem?_eq_some_iff.1 hu).1
 rw [Lib.cell_of_heap (World.alloc_heap_new w _),Nat.zero_add]
 have := fm_get hf rs hi j hj
 rw [hu] at this
 simpa using this
theorem RecAt.nil {α : Type} {k : Nat} {f : α → List Value} (W : World) (c : Nat) : RecAt k f W (.slice none 0 c) [] := ⟨⟨none,c,rfl,.inl rfl⟩,fun a n c e => by cases e; exact Nat.zero_le _⟩
end Go.Proofs.YtlgcnbomfhmjiaaGreatDoor

namespace Go.Proofs.YtlgcnbomfhmjiaaGreatDoor
open Go.RowKit Go.Shelf

theorem take_h {P : Program} {md : Region.Mode} {ops : Array Oper} {Q : Exit → Act → World → Prop} {S : World → Prop} {i : Nat} {oi : Oper} {v : Value} {fuel : Nat} {listed : Array Bool} {a : Act} {w : World} (a' : Act) (hi : ops[i]? = some oi)
  (hs : Region.noSelect ops = true) (hf : Region.free md ops listed i = true) (hr : (Region.ready md ops listed).contains i = true)
  (hQ : ∀ c x w,Q (.panic c) (x.put oi.dst v) w → Q (.panic c) x w) (hw : Region.wanted oi (yielded ops a.tmps) = true) (hy : ∀ w,S w → (execOp a.eval oi).run P w = .ok (.value v) w) (ha : a.put oi.dst v = a') (hS : S w)
  (h : wpAnyH P md ops Q S fuel (listed.setIfInBounds i true) a' w) : wpAnyH P md ops Q S (fuel + 1) listed a w :=
 wpAnyH_take hi hs hf hr hQ (Or.inl ⟨hw,hy⟩) hS (ha ▸ h)
theorem skip_h {P : Program} {md : Region.Mode} {ops : Array Oper} {Q : Exit → Act → World → Prop} {S : World → Prop} {i : Nat} {oi : Oper} {fuel : Nat} {listed : Array Bool} {a : Act} {w : World} (a' : Act) (hi : ops[i]? = some oi)
  (hs : Region.noSelect ops = true) (hf : Region.free md ops listed i = true) (hr : (Region.ready md ops listed).contains i = true)
  (hQ : ∀ c x w,Q (.panic c) (x.put oi.dst undef) w → Q (.panic c) x w) (hw : Region.wanted oi (yielded ops a.tmps) = false) (ha : a.put oi.dst undef = a') (hS : S w)
  (h : wpAnyH P md ops Q S fuel (listed.setIfInBounds i true) a' w) : wpAnyH P md ops Q S (fuel + 1) listed a w :=
 wpAnyH_take hi hs hf hr hQ (Or.inr ⟨hw,rfl⟩) hS (ha ▸ h)
theorem want_h {P : Program} {md : Region.Mode} {ops : Array Oper} {Q : Exit → Act → World → Prop} {S : World → Prop} {i : Nat} {oi : Oper} {fuel : Nat} {listed : Array Bool} {a : Act} {w : World} (hr : Region.ready md ops listed = [i]) (hi : ops[i]? = some oi)
  (hw : Region.wanted oi (yielded ops a.tmps) = true) (h : ∀ K : Act → World → Prop,(∀ a' w',S w' → wpAnyH P md ops Q S fuel (listed.setIfInBounds i true) a' w' → K a' w') → oi.wp P a w K Q) : wpAnyH P md ops Q S (fuel + 1) listed a w :=
 wpAnyH_all hr (by simp) fun j hj => by
  obtain rfl := List.mem_singleton.1 hj
  unfold wpOp
  simp only [hi,hw,if_true]
  exact Or.inl (h _ fun a' w' hS h' => ⟨hS,h'⟩)
theorem cast_h {P : Program} {md : Region.Mode} {ops : Array Oper} {Q : Exit → Act → World → Prop} {S : World → Prop} {fuel : Nat} {listed : Array Bool} {a : Act} {w : World} (a' : Act) (ha : a = a') (h : wpAnyH P md ops Q S fuel listed a' w) : wpAnyH P md ops Q S fuel listed a w := ha ▸ h

theorem two_h {P : Program} {md : Region.Mode} {ops : Array Oper} {Q : Exit → Act → World → Prop} {S : World → Prop} {i j : Nat} {oi oj : Oper} {fuel : Nat} {listed : Array Bool} {a : Act} {w : World} (hr : Region.ready md ops listed = [i,j]) (hi : ops[i]? = some oi) (hj : ops[j]? = some oj)
  (hw : Region.wanted oi (yielded ops a.tmps) = true) (hw' : Region.wanted oj (yielded ops a.tmps) = true) (h : ∀ K : Act → World → Prop,(∀ a' w',S w' → wpAnyH P md ops Q S fuel (listed.setIfInBounds i true) a' w' → K a' w') → oi.wp P a w K Q)
  (h' : ∀ K : Act → World → Prop,(∀ a' w',S w' → wpAnyH P md ops Q S fuel (listed.setIfInBounds j true) a' w' → K a' w') → oj.wp P a w K Q) : wpAnyH P md ops Q S (fuel + 1) listed a w :=
 wpAnyH_all hr (by simp) fun k hk => by
  rcases List.mem_cons.1 hk with rfl | hk
  ·unfold wpOp
   simp only [hi,hw,if_true]
   exact Or.inl (h _ fun a' w' hS h' => ⟨hS,h'⟩)
  ·obtain rfl := List.mem_singleton.1 hk
   unfold wpOp
   simp only [hj,hw',if_true]
   exact Or.inl (h' _ fun a' w' hS h' => ⟨hS,h'⟩)

end Go.Proofs.YtlgcnbomfhmjiaaGreatDoor

namespace Go.Proofs.YtlgcnbomfhmjiaaGreatDoor
open Go.RowKit Go.Shelf
set_option maxRecDepth 100000

structure It where
 k : Int
 f : Int
 t : Int
 w : Int
 s : Int
 h : Int
 c : Int
 y : Bool
def itL (x : It) : List Value := [.int .i64 x.k,.int .i64 x.f,.int .i64 x.t,.int .i64 x.w,.int .i64 x.s,.int .i64 x.h,.int .i64 x.c,.bool x.y]
theorem itL_len (x : It) : (itL x).length = 8 := rfl
theorem itL_one (x : It) : ∀ u ∈ itL x,u.oneCell' = true := by
 intro u hu; simp [itL] at hu; rcases hu with rfl | rfl | rfl | rfl | rfl | rfl | rfl | rfl <;> rfl
def okP (x : It) : Prop := (1 ≤ x.k ∧ x.k ≤ 4) ∧ 0 ≤ x.f ∧ x.f ≤ x.t ∧ (0 ≤ x.w ∧ x.w ≤ 524288) ∧ (0 ≤ x.s ∧ x.s ≤ 4095) ∧ (0 ≤ x.h ∧ x.h ≤ 4095) ∧ (0 ≤ x.c ∧ x.c ≤ 4095) ∧ (x.k ≠ 4 ∨ x.w = 0) ∧ (x.k = 2 ∨ (x.s = 0 ∧ x.h = 0)) ∧ (x.k = 3 ∨ (x.c = 0 ∧ x.y = false))
instance (x : It) : Decidable (okP x) := by unfold okP; infer_instance
def okI (x : It) : Bool := decide (okP x)
theorem below_drewM {n : Nat} {w w' : World} (h : Below n w w') (q : Nat) : Below n w (w'.drewN q) := ⟨h.1,h.2,h.3,h.4,h.5⟩

def keB (n m : Int) : Bool := decide (0 ≤ n ∧ n ≤ m)
theorem keeps_any (n m : Int) (w : World) : Calls Tryz.prog 254 #[.int .i64 n,.int .i64 m] w fun e w' => e = .returned (.bool (keB n m)) ∧ w' = w := by
 unfold keB
 by_cases h1 : 0 ≤ n
 ·by_cases h2 : n ≤ m
  ·rw [decide_eq_true ⟨h1,h2⟩]
   go_enter Tryz.func254,Tryz.ntmps254
   go_wp2
   go_ret
   exact ⟨rfl,rfl⟩
  ·rw [decide_eq_false (by omega)]
   go_enter Tryz.func254,Tryz.ntmps254
   go_wp2
   go_ret
   exact ⟨rfl,rfl⟩
 ·rw [decide_eq_false (by omega)]
  go_enter Tryz.func254,Tryz.ntmps254
  go_wp2
  go_ret
  exact ⟨rfl,rfl⟩
def stI (a : Int) : Int := (a / 48 + 1) * 48
theorem stop_any (a : Int) (h0 : 0 ≤ a) (h1 : a ≤ 1000000000000) (w : World) : Calls Tryz.prog 299 #[.int .i64 a] w fun e w' => e = .returned (.int .i64 (stI a)) ∧ w' = w := by
 have hd : a.tdiv 48 = a / 48 := Int.tdiv_eq_ediv_of_nonneg h0
 unfold stI
 go_enter Tryz.func299,Tryz.ntmps299
 go_wp2
 go_ret
 exact ⟨by first | rfl | (rw [hd]) | (simp [hd]),rfl⟩
end Go.Proofs.YtlgcnbomfhmjiaaGreatDoor
