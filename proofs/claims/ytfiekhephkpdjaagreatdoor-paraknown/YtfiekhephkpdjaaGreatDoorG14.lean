/-
  What is proved here: records that fill a block (no function of the program is named).
  What is proved here: sums of widths, stretches and shrinks; what tight, part and ratio of least answer.
  What is proved here: stops in memory; what line of least answers.
-/
import Derived.Test.YtfiekhephkpdjaaGreatDoorG9
import Derived.Test.YtfiekhephkpdjaaGreatDoorG2
import Derived.Deep.MidRow
import Derived.OrdersHeld
import Derived.Test.YtfiekhephkpdjaaGreatDoorRows
import Derived.Test.YtfiekhephkpdjaaGreatDoorG1
import Derived.BigQuiet
import Derived.Handy
namespace Go.Proofs.YtfiekhephkpdjaaGreatDoor
open Go.RowKit Go.Shelf

structure RB {α : Type} (k : Nat) (f : α → List Value) (W : World) (g : Nat) (L : List α) : Prop where
 lt : g < W.heap.size
 all : ∀ i (hi : i < L.length) (j : Nat) v,(f L[i])[j]? = some v → W.cell? ⟨g,i * k + j,none⟩ = some v ∧ W.frozen? ⟨g,i * k + j,none⟩ = false
section
variable {α : Type} {k : Nat} {f : α → List Value} {W W' : World} {g : Nat} {L : List α}
theorem RB.recs (h : RB k f W g L) {n cap : Nat} (hn : n ≤ L.length) (hc : n ≤ cap) : RecAt k f W (.slice (some ⟨g,0,none⟩) n cap) (L.take n) := by
 refine ⟨⟨some ⟨g,0,none⟩,cap,by rw [List.length_take,Nat.min_eq_left hn],.inr ⟨g,0,rfl,h.lt,fun i hi j v hv => ?_⟩⟩,fun a n' c e => ?_⟩
 ·have hil : i < L.length := by rw [List.length_take] at hi; omega
  rw [List.getElem_take] at hv
  have := (h.all i hil j v hv).1
  rw [Nat.zero_add]
  exact this
 ·cases e
  exact hc
theorem RB.same (h : RB k f W g L) (hs : W.heap.size ≤ W'.heap.size) (hbk : W'.heap[g]? = W.heap[g]?) : RB k f W' g L := ⟨Nat.lt_of_lt_of_le h.lt hs,fun i hi j v hv => by
 have := h.all i hi j v hv
 have e1 : W'.cell? ⟨g,i * k + j,none⟩ = W.cell? ⟨g,i * k + j,none⟩ := by unfold World.cell?; rw [hbk]
 have e2 : W'.frozen? ⟨g,i * k + j,none⟩ = W.frozen? ⟨g,i * k + j,none⟩ := by unfold World.frozen?; rw [hbk]
 rw [e1,e2]; exact this⟩
theorem RB.below {n : Nat} (h : RB k f W g L) (hb : Below n W W') (hn : g < n) : RB k f W' g L := h.same hb.size (hb.block g hn)
theorem RB.turns {X : Nat → Prop} (h : RB k f W g L) (hb : Turns X W W') (hn : ¬ X g) : RB k f W' g L := h.same hb.size (hb.block g h.lt hn)
theorem turns_setCells {X : Nat → Prop} {g : Nat} (hg : X g) : ∀ (vs : List Value) (o : Nat) (W : World),Turns X W (W.setCells g o vs)
 | [],_,_W => Turns.refl _ _
 | v :: r,o,W => (Turns.setCell W (p := ⟨g,o,none⟩) hg v).trans (turns_setCells hg r (o + 1) _)
theorem RB.there (hf : ∀ a,(f a).length = k) (h : RB k f W g L) {p : Nat} (hp : p < L.length) : W.there g (p * k) k := fun j hj => by
 obtain ⟨v,hv⟩ : ∃ v,(f L[p])[j]? = some v := ⟨(f L[p])[j]'(by rw [hf]; exact hj),List.getElem?_eq_getElem _⟩
 have := h.all p hp j v hv
 exact ⟨by rw [this.1]; rfl,this.2⟩
theorem apart_mul {i p j k : Nat} (hj : j < k) (e : ¬ p = i) : i * k + j < p * k ∨ p * k + k ≤ i * k + j := by
 rcases Nat.lt_or_gt_of_ne e with h | h
 ·right
  have : (p + 1) * k ≤ i * k := Nat.mul_le_mul_right k h
  rw [Nat.succ_mul] at this
  omega
 ·left
  have : (i + 1) * k ≤ p * k := Nat.mul_le_mul_right k h
  rw [Nat.succ_mul] at this
  omega
theorem RB.set (hf : ∀ a,(f a).length = k) (h : RB k f W g L) {p : Nat} (hp : p < L.length) (x : α) : RB k f (W.setCells g (p * k) (f x)) g (L.set p x) := by
 refine ⟨Nat.lt_of_lt_of_le h.lt (turns_setCells (X := fun _ => True) trivial _ _ _).size,fun i hi j v hv => ?_⟩
 have hi' : i < L.length := by simpa using hi
 have hj : j < k := by have := (List.getElem?_eq_some_iff.1 hv).1; rw [hf] at this; exact this
 rw [World.frozen?_setCells]
 by_cases e : p = i
 ·subst e
  rw [List.getElem_set_self] at hv
  have := (World.rangeAt_setCells_same W g (p * k) (f x) (by rw [hf]; exact h.there hf hp)) j v hv
  refine ⟨this,?_⟩
  exact ((h.there hf hp) j hj).2
 ·rw [List.getElem_set_ne e] at hv
  have := h.all i hi' j v hv
  refine ⟨?_,this.2⟩
  rw [World.cell?_setCells_out g (f x) (p * k) W ⟨g,i * k + j,none⟩ (fun _ _ => by rw [hf]; exact apart_mul hj e)]
  exact this.1
theorem RB.of_row {t : TypeId} {cur : Array Value} (hg : W.heap[g]? = some (.cells cur t (0,0))) (hc : ∀ i (hi : i < L.length) (j : Nat) v,(f L[i])[j]? = some v → cur[i * k + j]? = some v) : RB k f W g L :=
 ⟨(Array.getElem?_eq_some_iff.1 hg).1,fun i hi j v hv => ⟨by rw [Lib.cell_of_heap hg]; exact hc i hi j v hv,Lib.frozen_of_heap hg _⟩⟩
theorem made_rec (hf : ∀ a,(f a).length = k) (hk : 0 < k) (z : α) (n : Nat) : madeCells (f z).toArray (n * k) = ((List.replicate n z).flatMap f).toArray := by
 apply Array.ext
 ·rw [size_madeCells]; simp only [List.size_toArray]; rw [fm_len hf,List.length_replicate]
 ·intro i h1 h2
  have hik : i < n * k := by simpa [madeCells] using h1
  have hdv : i / k < n := Nat.div_lt_of_lt_mul (by rw [Nat.mul_comm]; exact hik)
  have hmd : i % k < k := Nat.mod_lt _ hk
  have hi : i / k < (List.replicate n z).length := by simpa using hdv
  have hv := fm_get hf (List.replicate n z) hi (i % k) hmd
  rw [List.getElem_replicate,show i / k * k + i % k = i by rw [Nat.mul_comm]; exact Nat.div_add_mod i k] at hv
  have : ((List.replicate n z).flatMap f)[i]? = some (((List.replicate n z).flatMap f).toArray[i]'h2) := by simp
  rw [this] at hv
  have hm : (madeCells (f z).toArray (n * k))[i] = (f z).toArray[i % (f z).toArray.size]! := by simp [madeCells]
  have h8 : (f z).toArray.size = k := by simpa using hf z
  rw [hm,h8,getElem!_pos _ _ (by rw [h8]; exact hmd)]
  rw [List.getElem?_eq_getElem (by rw [hf]; exact hmd)] at hv
  rw [Option.some.inj hv]
  simp
end
theorem all_h {P : Program} {md : Region.Mode} {ops : Array Oper} {Q : Exit → Act → World → Prop} {S : World → Prop} {fuel : Nat} {listed : Array Bool} {a : Act} {w : World} (is : List Nat) (hr : Region.ready md ops listed = is) (hne : is ≠ [])
  (h : ∀ i ∈ is,∃ oi,ops[i]? = some oi ∧ Region.wanted oi (yielded ops a.tmps) = true ∧ ∀ K : Act → World → Prop,(∀ a' w',S w' → wpAnyH P md ops Q S fuel (listed.setIfInBounds i true) a' w' → K a' w') → oi.wp P a w K Q) : wpAnyH P md ops Q S (fuel + 1) listed a w :=
 wpAnyH_all hr hne fun j hj => by
  obtain ⟨oi,h1,h2,h3⟩ := h j hj
  unfold wpOp
  simp only [h1,h2,if_true]
  exact Or.inl (h3 _ fun a' w' hS h' => ⟨hS,h'⟩)
end Go.Proofs.YtfiekhephkpdjaaGreatDoor

namespace Go.Proofs.YtfiekhephkpdjaaGreatDoor
open Go.RowKit Go.Shelf
set_option maxRecDepth 100000
set_option maxHeartbeats 1000000

structure Su where
 w : Int
 s : Int
 h : Int
def suL (x : Su) : List Value := [.int .i64 x.w,.int .i64 x.s,.int .i64 x.h]
theorem suL_len (x : Su) : (suL x).length = 3 := rfl
theorem suL_one (x : Su) : ∀ u ∈ suL x,u.oneCell' = true := by
 intro u hu; simp [suL] at hu; rcases hu with rfl | rfl | rfl <;> rfl
def su0 : Su := ⟨0,0,0⟩
structure SuOk (x : Su) : Prop where
 w : -17179869184 ≤ x.w ∧ x.w ≤ 17179869184
 s : 0 ≤ x.s ∧ x.s ≤ 67108864
 h : 0 ≤ x.h ∧ x.h ≤ 67108864
def tiI (x : Su) : Int := 1000 * x.w - 1001 * x.h

theorem tight_any (x : Su) (h : SuOk x) (w : World) : Calls Tryz.prog 101 #[.agg (suL x).toArray] w fun e w' => e = .returned (.int .i64 (tiI x)) ∧ Below w.heap.size w w' := by
 obtain ⟨xw,xs,xh⟩ := x
 obtain ⟨⟨h1,h2⟩,-,h3,h4⟩ := h
 simp only at h1 h2 h3 h4
 have hB := (Below.refl w.heap.size w).alloc (Nat.le_refl _) (.cells #[.int .i64 xw,.int .i64 xs,.int .i64 xh] 182)
 show Calls Tryz.prog 101 #[.agg #[.int .i64 xw,.int .i64 xs,.int .i64 xh]] w _
 go_enter Tryz.func101,Tryz.ntmps101
 go_wp2_with fail
 go_ret
 exact ⟨rfl,hB⟩

def ptR (n g : Int) : Int := if g = 0 then 0 else (1000 * n).tdiv g
def ptB (n g m : Int) : Bool := decide (g ≠ 0 ∧ ptR n g ≤ m)
def raR (x : Su) (d : Int) (l : Bool) : Int := if x.w = d ∨ (x.w < d ∧ l = true) then 0 else if x.w < d then ptR (d - x.w) x.s else ptR (x.w - d) x.h
def raB (x : Su) (d : Int) (l : Bool) : Bool := if x.w = d ∨ (x.w < d ∧ l = true) then true else if x.w < d then ptB (d - x.w) x.s 3000 else ptB (x.w - d) x.h 1000
end Go.Proofs.YtfiekhephkpdjaaGreatDoor

namespace Go.Proofs.YtfiekhephkpdjaaGreatDoor
open Go.RowKit Go.Shelf

structure St where
 a : Nat
 n : Nat
 e : Su
 b : Su
 c : Int
 y : Bool
 l : Bool
 t : Int
def stL (x : St) : List Value := [.int .i64 x.a,.int .i64 x.n,.int .i64 x.e.w,.int .i64 x.e.s,.int .i64 x.e.h,.int .i64 x.b.w,.int .i64 x.b.s,.int .i64 x.b.h,.int .i64 x.c,.bool x.y,.bool x.l,.int .i64 x.t]
theorem stL_len (x : St) : (stL x).length = 12 := rfl
theorem stL_one (x : St) : ∀ u ∈ stL x,u.oneCell' = true := by
 intro u hu; simp [stL] at hu; rcases hu with rfl | rfl | rfl | rfl | rfl | rfl | rfl | rfl | rfl | rfl | rfl | rfl <;> rfl
structure StAt (g o : Nat) (x : St) (W : World) : Prop where
 lt : g < W.heap.size
 c : ∀ j u,(stL x)[j]? = some u → W.cell? ⟨g,o + j,none⟩ = some u
theorem StAt.turns {X : Nat → Prop} {g o : Nat} {x : St} {W W' : World} (h : StAt g o x W) (hb : Turns X W W') (hn : ¬ X g) : StAt g o x W' := ⟨Nat.lt_of_lt_of_le h.lt hb.size,fun j u hu => by
 have e := hb.block g h.lt hn
 have := h.c j u hu
 unfold World.cell? at this ⊢
 simp only [e]
 exact this⟩
section
variable {g o : Nat} {x : St} {W : World}
theorem StAt.c11 (h : StAt g o x W) : W.cell? ⟨g,o + 11,none⟩ = some (.int .i64 x.t) := h.c 11 _ rfl
end
theorem wrap_i {n : Int} (h1 : -9223372036854775808 ≤ n) (h2 : n ≤ 9223372036854775807) : IntKind.i64.wrap n = n := by
 rw [IntKind.wrap_i64]; omega
def lnS (p q : St) : Su := ⟨q.e.w - p.b.w,q.e.s - p.b.s,q.e.h - p.b.h⟩
theorem info89 (p : Su) : (Tryz.prog.info? 182).map (·.size) = some (suL p).toArray.size := by show _ = some 3; kernel_rfl
theorem suL_all (p : Su) : (suL p).toArray.all (·.oneCell') = true := all_oneCell_toArray (suL_one p)
end Go.Proofs.YtfiekhephkpdjaaGreatDoor
