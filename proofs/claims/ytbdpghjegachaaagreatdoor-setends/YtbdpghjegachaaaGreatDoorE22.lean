/-
  What is proved here: the stop behind a place, where there are no stops of one's own (package tab); how far a tab goes.
  What is proved here: the closure that keeps where a line has come to; a line's record in memory; the natural width of a line.
  What is proved here: how many masses are ahead of a place, and whether that is a boundary.
  What is proved here: where the Penalties of a paragraph's items stand: the places rise (no program is named).
-/
import Derived.Test.YtbdpghjegachaaaGreatDoorE6
import Derived.Test.YtbdpghjegachaaaGreatDoorE21
namespace Go.Proofs.YtbdpghjegachaaaGreatDoor
open Go.RowKit Go.Shelf
set_option maxRecDepth 100000
set_option maxHeartbeats 400000

theorem tcheck_nil (w : World) : Calls Tryz.prog 130 #[.slice none 0 0] w fun e w' => e = .returned (.int .i64 0) ∧ w' = w := by
 go_enter Tryz.func130,Tryz.ntmps130
 go_wp2_with fail
 go_loopw [11] (fun i wr => i = .int .i64 0 ∧ wr = w) (fun _ _ => 0)
 case atStart => exact ⟨rfl,rfl⟩
 case round =>
  obtain ⟨rfl,rfl⟩ := hrel
  go_wp2_with fail
  go_ret
  exact ⟨rfl,rfl⟩
theorem reaches_any (x : Int) (h : 0 ≤ x ∧ x ≤ 47) (w : World) : Calls Tryz.prog 131 #[.int .i64 x] w fun e w' => e = .returned (.bool true) ∧ w' = w := by
 obtain ⟨h1,h2⟩ := h
 have h3 : x ≤ 8190 := by omega
 go_enter Tryz.func131,Tryz.ntmps131
 go_wp2_with fail
 go_ret
 exact ⟨rfl,rfl⟩
theorem tsearch_nil (x : Int) (f : Value) (w : World) : Calls Tryz.prog 155 #[.slice none 0 0,.int .i64 x,f] w fun e w' => e = .returned (.tuple #[.int .i64 0,.bool false]) ∧ w' = w := by
 go_enter Tryz.func155,Tryz.ntmps155
 go_wp2_with fail
 go_loopw [9,10] (fun i j wr => i = .int .i64 0 ∧ j = .int .i64 0 ∧ wr = w) (fun _ _ _ => 0)
 case atStart => exact ⟨rfl,rfl,rfl⟩
 case round =>
  obtain ⟨rfl,rfl,rfl⟩ := hrel
  go_wp2_with fail
  go_ret2
  exact ⟨rfl,rfl⟩
theorem behind_nil (x : Int) (h : 0 ≤ x ∧ x ≤ 47) (w : World) : Calls Tryz.prog 132 #[.slice none 0 0,.int .i64 x] w fun e w' => e = .returned (.agg #[.int .i64 48,.int .i64 0]) ∧ Below w.heap.size w w' := by
 obtain ⟨h1,h2⟩ := h
 have hd : Int.tdiv x 48 = 0 := by rw [Int.tdiv_eq_ediv_of_nonneg h1]; omega
 have hs := fun W => tsearch_nil (x + 1) (.func (.func 156) #[] #[]) W
 have hB := (Below.refl w.heap.size w).alloc (Nat.le_refl _) (.cells #[.int .i64 0,.int .i64 0] 82)
 go_enter Tryz.func132,Tryz.ntmps132
 go_wp2_with (go_at_call 155; refine (hs _).mono ?_; rintro e w' ⟨rfl,rfl⟩)
 exact bodyPost_ret (results_cell_row rfl _ _ w.heap.size 82 _ (0,0) _ rfl (World.alloc_heap_new w _) Tryz.underlying82 rfl (by kernel_rfl)) rfl ⟨rfl,(Below.refl w.heap.size w).alloc (Nat.le_refl _) _⟩
theorem results_cell_row2S {P : Program} {fn : Func} {p u : Tmp} {ty : TypeId} (h : fn.results = #[.cell p ty,.tmp u]) (tmps : Array Value) (w : World) (g : Nat) (t : TypeId) (cs : Array Value) (fr : Nat × Nat) (d : TypeDesc)
  (hp : tmps.getD p undef = .pointer (some ⟨g,0,none⟩)) (hg : w.heap[g]? = some (.cells cs t fr))
  (hu : P.underlying ty = some d) (hd : (match d with | .struct _ | .array _ _ => true | _ => false) = true) (hi : (P.info? ty).map (·.size) = some cs.size) :
  (results fn tmps).run P w = .ok (.tuple #[.agg cs,tmps.getD u undef]) w := by
 have hp' : tmps[p]?.getD undef = .pointer (some ⟨g,0,none⟩) := by simpa using hp
 rw [results_cell_tmp h]
 simp [hp',asAddr,run_loadVar_row w g t ty cs fr d hg hu hd hi,Result.andThen]
theorem next_nil (x : Int) (h : 0 ≤ x ∧ x ≤ 47) (w : World) : Calls Tryz.prog 104 #[.slice none 0 0,.int .i64 x] w fun e w' => e = .returned (.tuple #[.agg #[.int .i64 48,.int .i64 0],.int .i64 0]) ∧ Below w.heap.size w w' := by
 have hc := fun W => tcheck_nil W
 have hr := fun W => reaches_any x h W
 have hb := fun W => behind_nil x h W
 have hB := (Below.refl w.heap.size w).alloc (Nat.le_refl _) (.cells #[.int .i64 0,.int .i64 0] 82)
 have hz : (w.alloc (.cells #[.int .i64 0,.int .i64 0] 82)).heap[w.heap.size]? = some (.cells #[.int .i64 0,.int .i64 0] 82) := World.alloc_heap_new w _
 have hsz : w.heap.size < (w.alloc (.cells #[.int .i64 0,.int .i64 0] 82)).heap.size := by simp
 go_enter Tryz.func104,Tryz.ntmps104
 go_wp2_with (first | (go_at_call 130; refine (hc _).mono ?_; rintro e w' ⟨rfl,rfl⟩) | (go_at_call 131; refine (hr _).mono ?_; rintro e w' ⟨rfl,rfl⟩))
 refine (hb _).mono ?_
 rintro e w2 ⟨rfl,hb2⟩
 have hz2 := (hb2.block _ hsz).trans hz
 have hB2 := hB.trans (hb2.mono (Nat.le_of_lt hsz))
 clear hc hr hb hB hz hb2
 go_wp2_with (refine wpList_store_row rfl 82 _ _ rfl w.heap.size #[.int .i64 48,.int .i64 0] rfl rfl 82 _ hz2 (by kernel_rfl) rfl (by simp [Value.oneCell']) ?_)
 exact bodyPost_ret (results_cell_row2S rfl _ _ w.heap.size 82 _ (0,0) _ rfl (setRow_heap _ _ _ _ 82 _ hz2) Tryz.underlying82 rfl (by kernel_rfl)) rfl ⟨rfl,hB2.trans ((Turns.setRow (X := fun k => k = w.heap.size) w2 rfl _).below hB2.size (fun k hk => by omega))⟩
theorem toStop_any (x : Int) (h : 0 ≤ x ∧ x ≤ 9223372036854775807) (w : World) : Calls Tryz.prog 62 #[.int .i64 x] w fun e w' => e = .returned (.int .i64 (48 - x % 48)) ∧ Below w.heap.size w w' := by
 have hm : Int.tmod x 48 = x % 48 := Int.tmod_eq_emod_of_nonneg h.1
 have hr : 0 ≤ x % 48 ∧ x % 48 ≤ 47 := by omega
 obtain ⟨h1,h2⟩ := h
 have hn := fun W => next_nil (x % 48) hr W
 obtain ⟨r1,r2⟩ := hr
 go_enter Tryz.func62,Tryz.ntmps62
 go_wp2_with (go_at_call 104; refine (hn _).mono ?_; rintro e w2 ⟨rfl,hb2⟩)
 go_ret
 exact ⟨rfl,hb2.alloc hb2.size _⟩
end Go.Proofs.YtbdpghjegachaaaGreatDoor

namespace Go.Proofs.YtbdpghjegachaaaGreatDoor
open Go.RowKit Go.Shelf
set_option maxRecDepth 100000
set_option maxHeartbeats 400000

def rwC (a b : Value) (x h r : Int) (l : Bool) : Array Value := #[a,b,.int .i64 x,.int .i64 h,.int .i64 r,.bool l]
structure RW (W : World) (r : Nat) (a b : Value) (x h m : Int) (l : Bool) : Prop where
 row : W.heap[r]? = some (.cells (rwC a b x h m l) 60)
section
variable {W W' : World} {r : Nat} {a b : Value} {x h m : Int} {l : Bool}
theorem RW.lt (k : RW W r a b x h m l) : r < W.heap.size := (Array.getElem?_eq_some_iff.1 k.row).1
theorem RW.turns {X : Nat → Prop} (k : RW W r a b x h m l) (ht : Turns X W W') (hn : ¬ X r) : RW W' r a b x h m l := ⟨(ht.block r k.lt hn).trans k.row⟩
theorem RW.below {n : Nat} (k : RW W r a b x h m l) (hb : Below n W W') (hn : r < n) : RW W' r a b x h m l := ⟨(hb.block r hn).trans k.row⟩
theorem RW.c (k : RW W r a b x h m l) : W.cell? ⟨r,0,none⟩ = some a ∧ W.cell? ⟨r,1,none⟩ = some b ∧ W.cell? ⟨r,2,none⟩ = some (.int .i64 x) ∧ W.cell? ⟨r,3,none⟩ = some (.int .i64 h) ∧ W.cell? ⟨r,4,none⟩ = some (.int .i64 m) ∧ W.cell? ⟨r,5,none⟩ = some (.bool l) :=
 ⟨by rw [Lib.cell_of_heap k.row]; rfl,by rw [Lib.cell_of_heap k.row]; rfl,by rw [Lib.cell_of_heap k.row]; rfl,by rw [Lib.cell_of_heap k.row]; rfl,by rw [Lib.cell_of_heap k.row]; rfl,by rw [Lib.cell_of_heap k.row]; rfl⟩
theorem RW.z (k : RW W r a b x h m l) (j : Nat) : W.frozen? ⟨r,j,none⟩ = false := Lib.frozen_of_heap k.row _
end
def wkV (c : Nat) : Value := .func (.func 103) #[] #[.pointer (some ⟨c,0,none⟩)]
theorem walk_any (x : Int) (w : World) : Calls Tryz.prog 61 #[.int .i64 x] w fun e w' => e = .returned (wkV w.heap.size) ∧ w' = w.alloc (.cells #[.int .i64 x] 3) := by
 go_enter Tryz.func61,Tryz.ntmps61
 go_wp2_with fail
 go_ret
 exact ⟨rfl,rfl⟩
theorem step_any (c : Nat) (x k d : Int) (hx : -1000000000000 ≤ x ∧ x ≤ 1000000000000) (hk : -1000000000000 ≤ k ∧ k ≤ 1000000000000) (hd : -1000000000000 ≤ d ∧ d ≤ 1000000000000) (w : World) (hB : Boxed w c 3 (.int .i64 x)) :
  Calls Tryz.prog 103 #[.int .i64 k,.int .i64 d,.pointer (some ⟨c,0,none⟩)] w fun e w' => e = .returned (.int .i64 (x + k)) ∧ w' = w.setCell ⟨c,0,none⟩ (.int .i64 (x + k + d)) := by
 obtain ⟨h1,h2⟩ := hx
 obtain ⟨h3,h4⟩ := hk
 obtain ⟨h5,h6⟩ := hd
 have c0 := hB.cell
 have z0 := hB.frozen
 go_enter Tryz.func103,Tryz.ntmps103
 go_wp2_with fail
 go_ret
 exact ⟨rfl,rfl⟩
end Go.Proofs.YtbdpghjegachaaaGreatDoor

namespace Go.Proofs.YtbdpghjegachaaaGreatDoor
open Go.RowKit Go.Shelf
set_option maxRecDepth 100000
set_option maxHeartbeats 2000000

theorem isNaN_any (n : Int) (w : World) : Calls Tryz.prog 97 #[.int .i64 n] w fun e w' => e = .returned (.bool false) ∧ w' = w := by
 go_enter Tryz.func97,Tryz.ntmps97
 go_wp2
 go_ret
 exact ⟨rfl,rfl⟩
def cmpI (x y : Int) : Int := if x < y then -1 else if y < x then 1 else 0
theorem cmp_lt {x y : Int} (h : x < y) : cmpI x y = -1 := if_pos h
theorem cmp_ge {x y : Int} (h : y ≤ x) : 0 ≤ cmpI x y := by
 unfold cmpI
 rw [if_neg (by omega)]
 split <;> omega
theorem cmp_eq (x y : Int) : (cmpI x y == 0) = (x == y) := by
 unfold cmpI
 by_cases h : x < y
 ·rw [if_pos h,show (x == y) = false by simpa using (by omega : x ≠ y)]; rfl
 ·rw [if_neg h]
  by_cases h2 : y < x
  ·rw [if_pos h2,show (x == y) = false by simpa using (by omega : x ≠ y)]; rfl
  ·rw [if_neg h2,show (x == y) = true by simpa using (by omega : x = y)]; rfl
theorem compare_any (x y : Int) (w : World) : Calls Tryz.prog 53 #[.int .i64 x,.int .i64 y] w fun e w' => e = .returned (.int .i64 (cmpI x y)) ∧ w' = w := by
 have hn := isNaN_any
 by_cases h1 : x < y
 ·rw [cmp_lt h1]
  go_enter Tryz.func53,Tryz.ntmps53
  go_wp2_with (go_at_call 97; refine (hn _ _).mono ?_; rintro e w' ⟨rfl,rfl⟩)
  go_ret
  exact ⟨rfl,rfl⟩
 by_cases h2 : y < x
 ·have hc : cmpI x y = 1 := by unfold cmpI; rw [if_neg h1,if_pos h2]
  rw [hc]
  go_enter Tryz.func53,Tryz.ntmps53
  go_wp2_with (go_at_call 97; refine (hn _ _).mono ?_; rintro e w' ⟨rfl,rfl⟩)
  go_ret
  exact ⟨rfl,rfl⟩
 ·have hc : cmpI x y = 0 := by unfold cmpI; rw [if_neg h1,if_neg h2]
  rw [hc]
  go_enter Tryz.func53,Tryz.ntmps53
  go_wp2_with (go_at_call 97; refine (hn _ _).mono ?_; rintro e w' ⟨rfl,rfl⟩)
  go_ret
  exact ⟨rfl,rfl⟩
theorem close_any (m : Ms) (t : Int) (w : World) : Calls Tryz.prog 52 #[.agg #[.int .i64 m.f,.int .i64 m.t,.int .i64 m.k,.int .i64 m.s,.int .i64 m.w,.int .i64 m.q],.int .i64 t] w fun e w' => e = .returned (.int .i64 (cmpI m.f t)) ∧ Below w.heap.size w w' := by
 obtain ⟨x0,x1,x2,x3,x4,x5⟩ := m
 have hc := compare_any x0 t
 go_enter Tryz.func52,Tryz.ntmps52
 go_wp2_with (go_at_call 53; refine (hc _).mono ?_; rintro e w' ⟨rfl,rfl⟩)
 go_ret
 exact ⟨rfl,(Below.refl _ w).alloc (Nat.le_refl _) _⟩
def lowN (F : Nat → Int) (t : Int) : Nat → Nat
 | 0 => 0
 | n + 1 => if F n < t then n + 1 else lowN F t n
theorem lowN_is {F : Nat → Int} {t : Int} : ∀ {n k : Nat},k ≤ n → (∀ j,j < k → F j < t) → (∀ j,k ≤ j → j < n → t ≤ F j) → lowN F t n = k
 | 0,k,h,_,_ => by show 0 = k; omega
 | n + 1, k, h, h1, h2 => by
  unfold lowN
  by_cases e : k = n + 1
  ·rw [if_pos (h1 n (by omega)),e]
  ·have := h2 n (by omega) (by omega)
   rw [if_neg (by omega)]
   exact lowN_is (by omega) h1 (fun j a b => h2 j a (by omega))
theorem lowN_le (F : Nat → Int) (t : Int) : ∀ n,lowN F t n ≤ n
 | 0 => Nat.le_refl _
 | n + 1 => by have := lowN_le F t n; unfold lowN; split <;> omega
def fndB (F : Nat → Int) (t : Int) (n : Nat) : Bool := decide (lowN F t n < n) && (F (lowN F t n) == t)
theorem msearch_any (w : World) (g n cap : Nat) (M : Nat → Ms) (t : Int) (hr : ∀ j i,j < n → i < j → (M i).f < (M j).f) (hn : n ≤ 4096) (_hcap : n ≤ cap) (a : Option Addr) (ha : 0 < n → a = some ⟨g,0,none⟩) (hR : RF w g 0 n M) :
  Calls Tryz.prog 51 #[.slice a n cap,.int .i64 t,.func (.func 52) #[] #[]] w fun e w' => e = .returned (.tuple #[.int .i64 (lowN (fun i => (M i).f) t n : Nat),.bool (fndB (fun i => (M i).f) t n)]) ∧ Below w.heap.size w w' := by
 have hn' : (n : Int) ≤ 4096 := by omega
 have hr' : Hid (∀ j i,j < n → i < j → (M i).f < (M j).f) := hr
 have hcl : Hid (∀ W k,k < n → Below w.heap.size w W → W.cell? ⟨g,k * 6,none⟩ = some (.int .i64 (M k).f) ∧ W.cell? ⟨g,k * 6 + 1,none⟩ = some (.int .i64 (M k).t) ∧ W.cell? ⟨g,k * 6 + 2,none⟩ = some (.int .i64 (M k).k) ∧ W.cell? ⟨g,k * 6 + 3,none⟩ = some (.int .i64 (M k).s) ∧ W.cell? ⟨g,k * 6 + 4,none⟩ = some (.int .i64 (M k).w) ∧ W.cell? ⟨g,k * 6 + 5,none⟩ = some (.int .i64 (M k).q)) := fun W k hk hb => by
  have := (hR.below hb (fun h => hR.lt h)).c hk
  rw [show 0 + k * 6 = k * 6 by omega] at this
  exact this
 have hend : Hid (∀ p,p ≤ n → (∀ j,j < p → (M j).f < t) → (∀ j,p ≤ j → j < n → t ≤ (M j).f) → lowN (fun i => (M i).f) t n = p ∧ fndB (fun i => (M i).f) t n = (decide (p < n) && ((M p).f == t))) := fun p hp h1 h2 => by
  have e := lowN_is (F := fun i => (M i).f) hp h1 h2
  unfold fndB
  rw [e]
  exact ⟨rfl,rfl⟩
 clear hr hR
 generalize lowN (fun i => (M i).f) t n = lo at *
 generalize fndB (fun i => (M i).f) t n = fb at *
 go_enter Tryz.func51,Tryz.ntmps51
 go_wp2_with fail
 go_loopw [9,10] (fun i j wr => ∃ (p q : Nat),p ≤ q ∧ q ≤ n ∧ i = .int .i64 p ∧ j = .int .i64 q ∧ Below w.heap.size w wr ∧ Hid (∀ j,j < p → (M j).f < t) ∧ Hid (∀ j,q ≤ j → j < n → t ≤ (M j).f)) (fun i j _ => (intOf j).toNat - (intOf i).toNat)
 case atStart => exact ⟨0,n,by omega,by omega,rfl,rfl,Below.refl _ _,fun j hj => by omega,fun j hj h => by omega⟩
 case round =>
  obtain ⟨p,q,hpq,hq,rfl,rfl,hb,hlo,hhi⟩ := hrel
  by_cases hlt : p < q
  ·obtain rfl := ha (by omega)
   have hlt' : (p : Int) < q := by omega
   obtain ⟨m,hm,hm1,hm2⟩ : ∃ m : Nat,((p : Int) + q) / 2 = m ∧ p ≤ m ∧ m < q := ⟨(p + q) / 2,by omega,by omega,by omega⟩
   have hml : m < n := by omega
   have hml' : (m : Int) < n := by omega
   obtain ⟨m0,m1,m2,m3,m4,m5⟩ := hcl.out wr m hml hb
   have hcall := close_any (M m) t
   by_cases hx : (M m).f < t
   ·have hlo' : Hid (∀ j,j < m + 1 → (M j).f < t) := fun j hjm => by
     by_cases e : j = m
     ·subst e; exact hx
     ·exact Int.lt_trans (hr'.out m j hml (by omega)) hx
    rw [cmp_lt hx] at hcall
    clear hx hlo hr' hcl
    generalize M m = mm at *
    obtain ⟨x0,x1,x2,x3,x4,x5⟩ := mm
    go_wp2_with (go_at_call 52; refine (hcall _).mono ?_; rintro e w' ⟨rfl,hb2⟩; have hB := hb.trans (hb2.mono hb.size))
    exact ⟨⟨m + 1,q,by omega,by omega,by simp,rfl,hB,hlo',hhi⟩,by simp [intOf]; omega⟩
   ·have hhi' : Hid (∀ j,m ≤ j → j < n → t ≤ (M j).f) := fun j hjm hj => by
     by_cases e : j = m
     ·subst e; omega
     ·have := hr'.out j m hj (by omega); omega
    obtain ⟨z,hz,hz0⟩ : ∃ z,cmpI (M m).f t = z ∧ 0 ≤ z := ⟨_,rfl,cmp_ge (by omega)⟩
    rw [hz] at hcall
    clear hx hhi hr' hz hcl
    generalize M m = mm at *
    obtain ⟨x0,x1,x2,x3,x4,x5⟩ := mm
    have hz1 : ¬ z < 0 := by omega
    go_wp2_with (go_at_call 52; refine (hcall _).mono ?_; rintro e w' ⟨rfl,hb2⟩; have hB := hb.trans (hb2.mono hb.size))
    exact ⟨⟨p,m,by omega,by omega,rfl,rfl,hB,hlo,hhi'⟩,by simp [intOf]; omega⟩
  ·have hge : ¬ (p : Int) < q := by omega
   obtain ⟨e1,e2⟩ := hend.out p (by omega) hlo.out (fun j hj h => hhi.out j (by omega) h)
   replace e1 := e1.symm
   subst e1
   by_cases hpl : p < n
   ·obtain rfl := ha (by omega)
    have hpl' : (p : Int) < n := by omega
    obtain ⟨m0,m1,m2,m3,m4,m5⟩ := hcl.out wr p hpl hb
    have hcall := close_any (M p) t
    have hce : (cmpI (M p).f t == 0) = fb := by rw [e2,cmp_eq]; simp [hpl]
    clear hr' hcl e2
    generalize cmpI (M p).f t = z at *
    generalize M p = mm at *
    obtain ⟨x0,x1,x2,x3,x4,x5⟩ := mm
    clear hlo hhi hend
    go_wp2_with (go_at_call 52; refine (hcall _).mono ?_; rintro e w' ⟨rfl,hb2⟩; have hB := hb.trans (hb2.mono hb.size))
    go_ret2
    exact ⟨rfl,hB⟩
   ·have hpl' : ¬ (p : Int) < n := by omega
    have e3 : fb = false := by rw [e2]; simp [hpl]
    subst e3
    clear hr' hcl e2 hlo hhi hend
    go_wp2_with fail
    go_ret2
    exact ⟨rfl,hb⟩
theorem skeeps_any (x : Int) (w : World) : Calls Tryz.prog 23 #[.int .i64 x] w fun e w' => e = .returned (.bool (decide (0 ≤ x ∧ x ≤ 4095))) ∧ w' = w := by
 by_cases h1 : 0 ≤ x
 ·by_cases h2 : x ≤ 4095
  ·rw [show decide (0 ≤ x ∧ x ≤ 4095) = true by simp [h1,h2]]
   go_enter Tryz.func23,Tryz.ntmps23
   go_wp2_with fail
   go_ret
   exact ⟨rfl,rfl⟩
  ·rw [show decide (0 ≤ x ∧ x ≤ 4095) = false by simp [h2]]
   go_enter Tryz.func23,Tryz.ntmps23
   go_wp2_with fail
   go_ret
   exact ⟨rfl,rfl⟩
 ·rw [show decide (0 ≤ x ∧ x ≤ 4095) = false by simp [h1]]
  go_enter Tryz.func23,Tryz.ntmps23
  go_wp2_with fail
  go_ret
  exact ⟨rfl,rfl⟩
theorem ahead_any (p : Pa) (hsz : p.t.size ≤ 4096) (w : World) (g n cap : Nat) (M : Nat → Ms) (t : Int) (hr : ∀ j i,j < n → i < j → (M i).f < (M j).f) (hn : n ≤ 4096) (hcap : n ≤ cap) (a : Option Addr) (ha : 0 < n → a = some ⟨g,0,none⟩) (hR : RF w g 0 n M) :
  Calls Tryz.prog 22 #[paV p,.slice a n cap,.int .i64 t] w fun e w' => e = .returned (.tuple #[.int .i64 (lowN (fun i => (M i).f) t n : Nat),.bool (fndB (fun i => (M i).f) t n || (t == p.t.size))]) ∧ Below w.heap.size w w' := by
 have hB := (Below.refl w.heap.size w).alloc (Nat.le_refl _) (Obj.cells (paC p) 27)
 have hP := PB.new w p
 have hs := msearch_any (w.alloc (.cells (paC p) 27)) g n cap M t hr hn hcap a ha (hR.below hB (fun h => hR.lt h))
 have hs1 : w.heap.size < (w.alloc (.cells (paC p) 27)).heap.size := by simp
 have hsi : (p.t.size : Int) ≤ 4096 := by omega
 clear hR hr ha
 generalize lowN (fun i => (M i).f) t n = lo at *
 generalize fndB (fun i => (M i).f) t n = fb at *
 unfold paV
 generalize hw1 : w.alloc (.cells (paC p) 27) = w1 at *
 go_enter Tryz.func22,Tryz.ntmps22
 go_wp2_with (go_at_call 51; refine hs.mono ?_; rintro e w2 ⟨rfl,hb2⟩)
 have hP2 := hP.below hb2 hs1
 have c0 := hP2.c0
 have hB2 := hB.trans (hb2.mono hB.size)
 clear hs hP hP2 hB hb2 hw1
 cases fb
 ·go_quiet (fail)
  go_wp2_with fail
  go_ret2
  exact ⟨by simp,below_drewN hB2 _⟩
 ·go_quiet (fail)
  go_wp2_with fail
  go_ret2
  exact ⟨by simp,below_drewN hB2 _⟩
end Go.Proofs.YtbdpghjegachaaaGreatDoor

namespace Go.Proofs.YtbdpghjegachaaaGreatDoor
open Go.RowKit Go.Shelf

def pnF (L : List It) : List Int := (L.filter (fun i => i.k == 3)).map (fun i => i.f)
def pkB (t : ByteArray) (l : List Ms) (pd : List Bool) (k : Nat) : Bool := if alB (mAt l k) = true then (mAt l k).k == 5 else cuB t l pd k
theorem pnF_app (A B : List It) : pnF (A ++ B) = pnF A ++ pnF B := by unfold pnF; rw [List.filter_append,List.map_append]
theorem pnF_box (l : List Ms) (a b : Nat) : pnF (bxL l a b) = [] := by
 unfold bxL
 split
 ·rfl
 ·rfl
theorem pnF_sm (t : ByteArray) (l : List Ms) (pd : List Bool) (k : Nat) : pnF (smL t l pd k) = if pkB t l pd k = true then [(mAt l k).f] else [] := by
 unfold smL pkB
 by_cases ha : alB (mAt l k) = true
 ·rw [if_pos ha,if_pos ha,pnF_app,pnF_box,List.nil_append]
  unfold loneI
  unfold alB at ha
  rw [decide_eq_true_eq] at ha
  by_cases h3 : (mAt l k).k = 3
  ·rw [if_pos h3,h3]; rfl
  ·rw [if_neg h3]
   by_cases h4 : (mAt l k).k = 4
   ·rw [if_pos h4,h4]; rfl
   ·have h5 : (mAt l k).k = 5 := by omega
    rw [if_neg h4,if_pos h5,h5]; rfl
 ·rw [if_neg ha,if_neg ha]
  by_cases hc : cuB t l pd k = true
  ·rw [if_pos hc,if_pos hc,pnF_app,pnF_box,List.nil_append]
   unfold cutI
   by_cases hp : pdAt pd k = true
   ·rw [if_pos hp]; rfl
   ·rw [if_neg hp]
    unfold cuB at hc
    rw [Bool.or_eq_true] at hc
    rw [if_pos (hc.resolve_left hp)]; rfl
  ·rw [if_neg hc,if_neg hc]; rfl
def pkL (t : ByteArray) (l : List Ms) (pd : List Bool) : Nat → List Nat
 | 0 => []
 | k + 1 => pkL t l pd k ++ (if pkB t l pd k = true then [k] else [])
theorem pkL_lt (t : ByteArray) (l : List Ms) (pd : List Bool) : ∀ n,∀ k ∈ pkL t l pd n,k < n
 | 0,k,h => by simp [pkL] at h
 | n + 1, k, h => by
  unfold pkL at h
  rcases List.mem_append.1 h with h | h
  ·have := pkL_lt t l pd n k h; omega
  ·split at h
   ·have : k = n := by simpa using h
    omega
   ·simp at h
theorem pkL_rise (t : ByteArray) (l : List Ms) (pd : List Bool) : ∀ n,(pkL t l pd n).Pairwise (· < ·)
 | 0 => List.Pairwise.nil
 | n + 1 => by
  unfold pkL
  rw [List.pairwise_append]
  refine ⟨pkL_rise t l pd n,?_,fun x hx y hy => ?_⟩
  ·split
   ·exact List.pairwise_singleton _ _
   ·exact List.Pairwise.nil
  ·have := pkL_lt t l pd n x hx
   split at hy
   ·have : y = n := by simpa using hy
    omega
   ·simp at hy
theorem pnF_ou (t : ByteArray) (l : List Ms) (pd : List Bool) : ∀ n,pnF (ouL t l pd n) = (pkL t l pd n).map (fun k => (mAt l k).f)
 | 0 => rfl
 | n + 1 => by
  unfold ouL pkL
  rw [pnF_app,pnF_ou t l pd n,pnF_sm,List.map_append]
  split <;> rfl
theorem pnF_its (t : ByteArray) (l : List Ms) (pd : List Bool) : pnF (itsL t l pd) = (pkL t l pd l.length).map (fun k => (mAt l k).f) := by
 unfold itsL
 rw [pnF_app,pnF_ou,pnF_box,List.append_nil]
theorem sm_len (t : ByteArray) (l : List Ms) (pd : List Bool) (k : Nat) : (smL t l pd k).length ≤ 2 := by
 have h : ∀ a b,(bxL l a b).length ≤ 1 := fun a b => by unfold bxL; split <;> simp
 unfold smL
 split
 ·have := h (frN t l pd k) k; simp; omega
 ·split
  ·have := h (frN t l pd k) k; simp; omega
  ·simp
theorem ou_len (t : ByteArray) (l : List Ms) (pd : List Bool) : ∀ n,(ouL t l pd n).length ≤ 2 * n
 | 0 => Nat.le_refl _
 | n + 1 => by
  have h1 := ou_len t l pd n
  have h2 := sm_len t l pd n
  unfold ouL
  rw [List.length_append]; omega
theorem its_len9 (t : ByteArray) (l : List Ms) (pd : List Bool) (h : l.length ≤ 4096) : (itsL t l pd).length ≤ 8193 := by
 have h1 := ou_len t l pd l.length
 have h2 : (bxL l (frN t l pd l.length) l.length).length ≤ 1 := by unfold bxL; split <;> simp
 unfold itsL
 rw [List.length_append]; omega
def pnA (a : Pa) : List Int := pnF (itemsOf a)
def pnB (a : Pa) (x : Int) : Bool := decide (x ∈ pnA a)
theorem bodyL_rise {a : Pa} {i j : Nat} (hj : j < (bodyL a).length) (hi : i < j) : (mAt (bodyL a) i).f < (mAt (bodyL a) j).f := by
 have key : ∀ {i j : Nat},j < num a.t → i < j → (msI a i).f < (msI a j).f := fun {i j} hj hi => by
  have h : ∀ d,i + d + 1 < num a.t + 0 → ((st a.t i : Nat) : Int) < (st a.t (i + d + 1) : Nat) := fun d => by
   induction d with
   | zero => intro h; have := st_lt (num_lt (show i < num a.t by omega)); show ((st a.t i : Nat) : Int) < (st a.t (i + 1) : Nat); omega
   | succ d ih =>
    intro h
    have h1 := ih (by omega)
    have h2 := st_lt (num_lt (show i + d + 1 < num a.t by omega))
    have e : i + (d + 1) + 1 = i + d + 1 + 1 := by omega
    rw [e]; omega
  have h1 := h (j - i - 1) (by omega)
  rw [show i + (j - i - 1) + 1 = j by omega] at h1
  exact h1
 rw [mAt_is hj,mAt_is (show i < (bodyL a).length by omega)]
 have hb : bodyL a = (mss a).drop 1 ∨ bodyL a = mss a := by unfold bodyL; split; exact .inl rfl; exact .inr rfl
 rcases hb with hb | hb
 ·have hl : (bodyL a).length = num a.t - 1 := by rw [hb,List.length_drop,mss_len]
  have hg : ∀ k (h : k < (bodyL a).length),(bodyL a)[k] = msI a (1 + k) := fun k h => by
   have h' : k < ((mss a).drop 1).length := by rw [← hb]; exact h
   have : (bodyL a)[k] = ((mss a).drop 1)[k] := by simp only [hb]
   rw [this,List.getElem_drop,mss_get]
  rw [hg,hg]
  exact key (by omega) (by omega)
 ·have hl : (bodyL a).length = num a.t := by rw [hb,mss_len]
  have hg : ∀ k (h : k < (bodyL a).length),(bodyL a)[k] = msI a k := fun k h => by
   have h' : k < (mss a).length := by rw [← hb]; exact h
   have : (bodyL a)[k] = (mss a)[k] := by simp only [hb]
   rw [this,mss_get]
  rw [hg,hg]
  exact key (by omega) hi
theorem pnA_rise (a : Pa) : (pnA a).Pairwise (· < ·) := by
 unfold pnA itemsOf
 rw [pnF_its,List.pairwise_map]
 refine (pkL_rise a.t (bodyL a) (pdOf a) (bodyL a).length).imp_of_mem ?_
 intro x y hx hy hxy
 exact bodyL_rise (pkL_lt _ _ _ _ y hy) hxy
theorem rise_at {L : List Int} (h : L.Pairwise (· < ·)) : ∀ j i,j < L.length → i < j → L.getD i 0 < L.getD j 0 := fun j i hj hi => by
 rw [List.getD_eq_getElem?_getD,List.getD_eq_getElem?_getD,List.getElem?_eq_getElem hj,List.getElem?_eq_getElem (show i < L.length by omega)]
 exact List.pairwise_iff_getElem.1 h i j (by omega) hj hi
theorem fnd_mem {L : List Int} (h : L.Pairwise (· < ·)) (t : Int) : fndB (fun i => L.getD i 0) t L.length = decide (t ∈ L) := by
 have hr := rise_at h
 have hgd : ∀ k (h : k < L.length),L.getD k 0 = L[k] := fun k h => by rw [List.getD_eq_getElem?_getD,List.getElem?_eq_getElem h]; rfl
 by_cases hm : t ∈ L
 ·obtain ⟨k,hk,e⟩ := List.getElem_of_mem hm
  have hlo : lowN (fun i => L.getD i 0) t L.length = k := lowN_is (by omega) (fun j hj => by
   have := hr k j hk hj
   rw [hgd k hk,e] at this
   exact this) (fun j hj hjl => by
   by_cases ej : j = k
   ·subst ej; show t ≤ L.getD j 0; rw [hgd j hk,e]; exact Int.le_refl _
   ·have := hr j k hjl (by omega)
    rw [hgd k hk,e] at this
    show t ≤ L.getD j 0
    omega)
  unfold fndB
  rw [hlo]
  show (decide (k < L.length) && (L.getD k 0 == t)) = _
  rw [hgd k hk,e,decide_eq_true hm]
  simp [hk]
 ·rw [decide_eq_false hm]
  unfold fndB
  by_cases hl : lowN (fun i => L.getD i 0) t L.length < L.length
  ·have hne : L.getD (lowN (fun i => L.getD i 0) t L.length) 0 ≠ t := fun e => hm (by rw [hgd _ hl] at e; rw [← e]; exact List.getElem_mem hl)
   rw [show (L.getD (lowN (fun i => L.getD i 0) t L.length) 0 == t) = false by simpa using hne,Bool.and_false]
  ·rw [decide_eq_false hl]; rfl
end Go.Proofs.YtbdpghjegachaaaGreatDoor
