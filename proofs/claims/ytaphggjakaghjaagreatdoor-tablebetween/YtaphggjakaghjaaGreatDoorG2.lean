/-
  What is proved here: lists of records, in memory (no program is named).
  What is proved here: what an item is, which may be; what keeps, fits and stop answer.
-/
import Derived.Test.YtaphggjakaghjaaGreatDoorG1
import Derived.Test.YtaphggjakaghjaaGreatDoorRows
import Derived.BigQuiet
import Derived.Handy
namespace Go.Proofs.YtaphggjakaghjaaGreatDoor
open Go.RowKit Go.Shelf

theorem fm_len {α : Type} {k : Nat} {f : α → List Value} (hf : ∀ a,(f a).length = k) (l : List α) : (l.flatMap f).length = l.length * k := by
 induction l with
 | nil => simp
 | cons p r ih => rw [List.flatMap_cons,List.length_append,ih,hf,List.length_cons,Nat.succ_mul]; omega
theorem fm_get {α : Type} {k : Nat} {f : α → List Value} (hf : ∀ a,(f a).length = k) (ps : List α) {i : Nat} (h : i < ps.length) (j : Nat) (hj : j < k) : (ps.flatMap f)[i * k + j]? = (f ps[i])[j]? := by
 have hs : ps = ps.take i ++ (ps[i] :: ps.drop (i + 1)) := by simp
 conv => lhs; rw [hs]
 have hl : ((ps.take i).flatMap f).length = i * k := by rw [fm_len hf,List.length_take,Nat.min_eq_left (by omega)]
 rw [List.flatMap_append,List.flatMap_cons,List.getElem?_append_right (by omega),hl,List.getElem?_append_left (by rw [hf]; omega)]
 congr 1; omega
structure RecAt {α : Type} (k : Nat) (f : α → List Value) (W : World) (v : Value) (rs : List α) : Prop where
 ex : ∃ a cap,v = .slice a rs.length cap ∧ (rs = [] ∨ ∃ b o,a = some ⟨b,o,none⟩ ∧ b < W.heap.size ∧ ∀ (i : Nat) (h : i < rs.length) (j : Nat) (u : Value),(f rs[i])[j]? = some u → W.cell? ⟨b,o + i * k + j,none⟩ = some u)
 le : ∀ a n c,v = .slice a n c → n ≤ c
theorem RecAt.below {α : Type} {k : Nat} {f : α → List Value} {W W' : World} {n : Nat} {v : Value} {rs : List α} (h : RecAt k f W v rs) (hb : Below n W W') (hn : W.heap.size ≤ n) : RecAt k f W' v rs := by
 have hle := h.le
 obtain ⟨a,cap,rfl,h2⟩ := h.ex
 refine ⟨⟨a,cap,rfl,?_⟩,hle⟩
 rcases h2 with h2 | ⟨b,o,rfl,hlt,hc⟩
 ·exact .inl h2
 ·exact .inr ⟨b,o,rfl,Nat.lt_of_lt_of_le hlt hb.size,fun i hi j u hu => (hb.cell (Nat.lt_of_lt_of_le hlt hn)).trans (hc i hi j u hu)⟩
theorem rec_of_row {α : Type} {k : Nat} {f : α → List Value} (hf : ∀ a,(f a).length = k) {W : World} {base : Nat} {e : TypeId} {v : Value} {rs : List α} {n : Nat} (hn : n = rs.length) (h : W.ownsRow base e k v n (rs.flatMap f)) : RecAt k f W v rs := by
 subst hn
 rcases h.2 with ⟨rfl,hn⟩ | ⟨g,cap,cur,rfl,hb',hg,hnc,_⟩
 ·have : rs = [] := List.eq_nil_of_length_eq_zero hn
  exact ⟨⟨none,0,by rw [hn],.inl this⟩,fun a n c e => by cases e; exact Nat.le_refl _⟩
 ·refine ⟨⟨_,cap,rfl,.inr ⟨g,0,rfl,(Array.getElem?_eq_some_iff.1 hg).1,fun i hi j u hu => ?_⟩⟩,fun a n c e => by cases e; exact hnc⟩
  have hj : j < k := by rw [← hf rs[i]]; exact (List.getElem?_eq_some_iff.1 hu).1
  have hc := h.cells (g := g) rfl (i * k + j) u (by rw [fm_get hf rs hi j hj,hu])
  rw [addr_add0] at hc
  rw [Nat.zero_add]
  exact hc
theorem rec_new {α : Type} {k : Nat} {f : α → List Value} (hf : ∀ a,(f a).length = k) (w : World) (e : TypeId) (rs : List α) : RecAt k f (w.alloc (.cells (rs.flatMap f).toArray e)) (.slice (some ⟨w.heap.size,0,none⟩) rs.length rs.length) rs := by
 refine ⟨⟨_,_,rfl,.inr ⟨_,0,rfl,by simp,fun i hi j u hu => ?_⟩⟩,fun a n c e => by cases e; exact Nat.le_refl _⟩
 have hj : j < k := by rw [← hf rs[i]]; exact (List.getElem?_eq_some_iff.1 hu).1
 rw [Lib.cell_of_heap (World.alloc_heap_new w _),Nat.zero_add]
 have := fm_get hf rs hi j hj
 rw [hu] at this
 simpa using this
theorem RecAt.nil {α : Type} {k : Nat} {f : α → List Value} (W : World) (c : Nat) : RecAt k f W (.slice none 0 c) [] := ⟨⟨none,c,rfl,.inl rfl⟩,fun a n c e => by cases e; exact Nat.zero_le _⟩
end Go.Proofs.YtaphggjakaghjaaGreatDoor

namespace Go.Proofs.YtaphggjakaghjaaGreatDoor
open Go.RowKit Go.Shelf
set_option maxRecDepth 100000

structure It where
 k : Int
 f : Int
 t : Int
 w : Int
 s : Int
 h : Int
 c : Int
 y : Bool
def itL (x : It) : List Value := [.int .i64 x.k,.int .i64 x.f,.int .i64 x.t,.int .i64 x.w,.int .i64 x.s,.int .i64 x.h,.int .i64 x.c,.bool x.y]
theorem itL_len (x : It) : (itL x).length = 8 := rfl
theorem itL_one (x : It) : ∀ u ∈ itL x,u.oneCell' = true := by
 intro u hu; simp [itL] at hu; rcases hu with rfl | rfl | rfl | rfl | rfl | rfl | rfl | rfl <;> rfl
def okP (x : It) : Prop := (1 ≤ x.k ∧ x.k ≤ 4) ∧ 0 ≤ x.f ∧ x.f ≤ x.t ∧ (0 ≤ x.w ∧ x.w ≤ 524288) ∧ (0 ≤ x.s ∧ x.s ≤ 4095) ∧ (0 ≤ x.h ∧ x.h ≤ 4095) ∧ (0 ≤ x.c ∧ x.c ≤ 4095) ∧ (x.k ≠ 4 ∨ x.w = 0) ∧ (x.k = 2 ∨ (x.s = 0 ∧ x.h = 0)) ∧ (x.k = 3 ∨ (x.c = 0 ∧ x.y = false))
instance (x : It) : Decidable (okP x) := by unfold okP; infer_instance
def okI (x : It) : Bool := decide (okP x)
theorem below_drewM {n : Nat} {w w' : World} (h : Below n w w') (q : Nat) : Below n w (w'.drewN q) := ⟨h.1,h.2,h.3,h.4,h.5⟩

def keB (n m : Int) : Bool := decide (0 ≤ n ∧ n ≤ m)
theorem keeps_any (n m : Int) (w : World) : Calls Tryz.prog 281 #[.int .i64 n,.int .i64 m] w fun e w' => e = .returned (.bool (keB n m)) ∧ w' = w := by
 unfold keB
 by_cases h1 : 0 ≤ n
 ·by_cases h2 : n ≤ m
  ·rw [decide_eq_true ⟨h1,h2⟩]
   go_enter Tryz.func281,Tryz.ntmps281
   go_wp2
   go_ret
   exact ⟨rfl,rfl⟩
  ·rw [decide_eq_false (by omega)]
   go_enter Tryz.func281,Tryz.ntmps281
   go_wp2
   go_ret
   exact ⟨rfl,rfl⟩
 ·rw [decide_eq_false (by omega)]
  go_enter Tryz.func281,Tryz.ntmps281
  go_wp2
  go_ret
  exact ⟨rfl,rfl⟩
def stI (a : Int) : Int := (a / 48 + 1) * 48
theorem stop_any (a : Int) (h0 : 0 ≤ a) (h1 : a ≤ 1000000000000) (w : World) : Calls Tryz.prog 322 #[.int .i64 a] w fun e w' => e = .returned (.int .i64 (stI a)) ∧ w' = w := by
 have hd : a.tdiv 48 = a / 48 := Int.tdiv_eq_ediv_of_nonneg h0
 unfold stI
 go_enter Tryz.func322,Tryz.ntmps322
 go_wp2
 go_ret
 exact ⟨by first | rfl | (rw [hd]) | (simp [hd]),rfl⟩
end Go.Proofs.YtaphggjakaghjaaGreatDoor
