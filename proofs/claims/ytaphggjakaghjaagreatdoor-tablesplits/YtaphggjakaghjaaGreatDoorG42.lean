/-
  What is proved here: the chapter's examples are answered as it says.
-/
import Derived.Test.YtaphggjakaghjaaGreatDoorG38
import Derived.Test.YtaphggjakaghjaaGreatDoorG41
namespace Go.Proofs.YtaphggjakaghjaaGreatDoor
open Go.RowKit Go.Shelf
set_option maxRecDepth 100000
set_option maxHeartbeats 8000000

def XbEnd (n0 n1 : Nat) (w : World) (e : Ending) (w' : World) : Prop := ∃ (g : Nat) (p r : Option Addr) (m k : Nat),e = .returned (.tuple #[.slice (some ⟨g,0,none⟩) 2 2,.int .i64 0]) ∧ w'.cell? ⟨g,2,none⟩ = some (.slice p n0 m) ∧ w'.cell? ⟨g,5,none⟩ = some (.slice r n1 k) ∧ g < w'.heap.size ∧ Below w.heap.size w w'
theorem xbet {lo : Nat} {T g0 g1 : Nat} {sa : Option Addr} {sc : Nat} {a0 b0 a1 : Lx} (f t : Int) (hft : 0 ≤ f ∧ f ≤ t ∧ t ≤ 24) (n0 n1 : Nat) (h0 : (wiL [a0,b0] f t).length = n0) (h1 : (wiL [a1] f t).length = n1) (W : World) (hA : XAt lo W T g0 g1 sa sc a0 b0 a1) :
  Calls Tryz.prog 21 #[.agg #[.int .i64 24,.slice sa 1 sc,.slice (some ⟨T,0,none⟩) 2 2],.int .i64 f,.int .i64 t] W (XbEnd n0 n1 W) := by
 obtain ⟨r,c0,c1,hR,hX,hS⟩ := hA.ex
 have hC := x_cells hR hX hS
 obtain ⟨T',_,hv,hr⟩ := hR.cv
 rw [hS.cv] at hv
 obtain rfl : T = T' := by simpa using congrArg (fun v => match v with | Value.slice (some a) _ _ => a.block | _ => 0) hv
 rw [hX.cs] at hr
 have hrec : RecAt 3 ceL W (.slice (some ⟨T,0,none⟩) 2 2) [c0,c1] := hr.recs (n := 2) (cap := 2) (Nat.le_refl _) (Nat.le_refl _)
 refine (between_yes 24 (.slice sa 1 sc) (.slice (some ⟨T,0,none⟩) 2 2) [c0,c1] f t hft (by show 2 ≤ 400; omega) (fun c hc => ?_) W hrec (fun c hc => ?_)).mono ?_
 ·simp only [List.mem_cons,List.not_mem_nil,or_false] at hc
  rcases hc with rfl | rfl
  ·rw [hX.l0]; show 2 ≤ 8000; omega
  ·rw [hX.l1]; show 1 ≤ 8000; omega
 ·simp only [List.mem_cons,List.not_mem_nil,or_false] at hc
  rcases hc with rfl | rfl
  ·rw [hS.v0,hX.l0]; exact hC.l0
  ·rw [hS.v1,hX.l1]; exact hC.l1
 ·rintro e w' ⟨⟨g,d,_,rfl,hrb,hd,hi⟩,hb⟩
  obtain ⟨d0,d1,rfl⟩ := list2 hd
  obtain ⟨i0,o0⟩ := hi 0 (by simp)
  obtain ⟨i1,o1⟩ := hi 1 (by simp)
  have e0 : d0.ls = wiL [a0,b0] f t := by have := i0.ls; rw [← hX.l0]; exact this
  have e1 : d1.ls = wiL [a1] f t := by have := i1.ls; rw [← hX.l1]; exact this
  obtain ⟨p,m,v0⟩ := owns_slice o0
  obtain ⟨q,k,v1⟩ := owns_slice o1
  have v0' : d0.v = .slice p n0 m := by rw [← h0,← e0]; exact v0
  have v1' : d1.v = .slice q n1 k := by rw [← h1,← e1]; exact v1
  refine ⟨g,p,q,m,k,rfl,?_,?_,hrb.lt,hb⟩
  ·have := (hrb.all 0 (by simp) 2 d0.v rfl).1
   rw [v0'] at this; exact this
  ·have := (hrb.all 1 (by simp) 2 d1.v rfl).1
   rw [v1'] at this; exact this
theorem xheight (W : World) : Calls Tryz.prog 11 #[.agg #[.int .i64 2,.slice (some ⟨W.heap.size,0,none⟩) 2 2],.int .i64 30] (W.alloc (.cells #[.string { data := #[97,98,32,99] },.string { data := #[100,100] }] 9)) fun e w' => e = .returned (.tuple #[.int .i64 24,.int .i64 0]) ∧ Below W.heap.size W w' := by
 have hB := (Below.refl W.heap.size W).alloc (Nat.le_refl _) (.cells #[.string { data := #[97,98,32,99] },.string { data := #[100,100] }] 9)
 refine (height_yes 2 (.slice (some ⟨W.heap.size,0,none⟩) 2 2) exl 30 ex_small _ (strs_new W exl) ex_ck (by omega)).mono ?_
 rintro e w' ⟨hb,(⟨h1,_⟩ | ⟨_,h1,_⟩ | ⟨_,_,rs,rfl,hI⟩)⟩
 ·exact absurd ex_ck h1
 ·exact absurd (by omega) h1
 ·rw [show ((2 : Nat) : Int).toNat = 2 from rfl,ex_w30.1] at hI
  have hn : rs.length = 1 := by have := hI.num; have e : exl.length = 2 := rfl; rw [e] at this; omega
  obtain ⟨r,rfl⟩ := list1 hn
  obtain ⟨a0,b0,a1,c0,c1,hX⟩ := x_row (hI.rs 0 (by simp))
  have hh : r.h = 24 := hX.h
  have e : htN [r] [r].length = 24 := by show (0 : Int) + r.h = 24; rw [hh]; rfl
  rw [e]
  exact ⟨rfl,hB.trans (hb.mono hB.size)⟩
theorem xnone (W : World) : Calls Tryz.prog 9 #[.agg #[.int .i64 0,.slice none 0 0],.int .i64 30] W fun e w' => e = .returned (.tuple #[.slice none 0 0,.int .i64 2]) ∧ Below W.heap.size W w' := by
 have hz : chkG 0 [] = 2 := by kernel_rfl
 refine (rows_no 0 (.slice none 0 0) [] 30 (by decide) (fun t ht => by cases ht) W (strs_nil W) (fun h => by rw [hz] at h; omega)).mono ?_
 rintro e w' ⟨hb,(⟨_,rfl⟩ | ⟨h1,_⟩ | ⟨h1,_⟩)⟩
 ·rw [hz]; exact ⟨rfl,hb⟩
 ·rw [hz] at h1; omega
 ·rw [hz] at h1; omega
theorem wi_a (a0 b0 : Lx) : (wiL [a0,b0] 0 12).length = 1 := rfl
theorem wi_b (a1 : Lx) : (wiL [a1] 0 12).length = 1 := rfl
theorem wi_c (a0 b0 : Lx) : (wiL [a0,b0] 12 24).length = 1 := rfl
theorem wi_d (a1 : Lx) : (wiL [a1] 12 24).length = 0 := rfl
theorem known5 (w : World) : Calls Tryz.prog 5 #[] w fun e w' => e = .returned (.bool true) ∧ Below w.heap.size w w' := by
 have hcall := xrows_at w
 have hno : Hid (∀ W T sa sc,Calls Tryz.prog 21 #[.agg #[.int .i64 24,.slice sa 1 sc,.slice (some ⟨T,0,none⟩) 2 2],.int .i64 5,.int .i64 3] W fun e w' => e = .returned (.tuple #[.slice none 0 0,.int .i64 5]) ∧ Below W.heap.size W w') := fun W T sa sc => between_no _ _ _ _ _ (by omega) W
 go_enter Tryz.func5,Tryz.ntmps5
 go_wp2_with (first | (go_at_call 24; refine hcall.mono ?_; rintro e w2 ⟨T,g0,g1,sa,sc,a0,b0,a1,rfl,hX,hq,hb2⟩; have hXh : Hid (∀ W,Below w2.heap.size w2 W → XAt (w.heap.size + 1) W T g0 g1 sa sc a0 b0 a1) := fun W hb => hX.below hb; have hqh : Hid (xQ a0 b0) := hq; have hb2h : Hid (Below w.heap.size w w2) := hb2; clear hX hcall hq hb2) | (go_at_call 19; refine (awake19 _).mono ?_; rintro e w3 ⟨rfl,hb3⟩; have hB3 : Hid (Below w2.heap.size w2 w3) := ((Below.refl w2.heap.size w2).alloc (Nat.le_refl _) _).trans (hb3.mono (by simp)); have hbx3 : Hid (w3.heap[w2.heap.size]? = some (.cells #[.int .i64 24,.slice sa 1 sc,.slice (some ⟨T,0,none⟩) 2 2] 39 (0,0))) := (hb3.block _ (by simp)).trans (World.alloc_heap_new w2 _); clear hb3))
 refine xk_r4 _ ?_ _ _ w2.heap.size T g0 g1 sa sc a0 b0 a1 w3 hbx3.out (hXh.out w3 hB3.out).c ?_
 ·exact fun _ _ _ _ _ h => h
 intro g3 g4 w4 hg3 hg4 k3 k4 hb4
 have hB4 : Hid (Below w2.heap.size w2 w4) := hB3.out.trans (hb4.mono hB3.out.size)
 have hX4 := (hXh.out w4 hB4.out).c
 obtain ⟨qa,qb,qc,qd⟩ := hqh.out
 have c0 : w4.cell? ⟨g3,0,none⟩ = some (.int .i64 0) := by rw [Lib.cell_of_heap k3]; rfl
 have c1 : w4.cell? ⟨g3,1,none⟩ = some (.int .i64 16) := by rw [Lib.cell_of_heap k3]; rfl
 have c2 : w4.cell? ⟨g3,2,none⟩ = some (.slice (some ⟨g0,0,none⟩) 2 2) := by rw [Lib.cell_of_heap k3]; rfl
 have d0 : w4.cell? ⟨g4,0,none⟩ = some (.int .i64 16) := by rw [Lib.cell_of_heap k4]; rfl
 have d1 : w4.cell? ⟨g4,1,none⟩ = some (.int .i64 14) := by rw [Lib.cell_of_heap k4]; rfl
 have hl0 : ∀ i (hi : i < [a0,b0].length) j v,(lxL [a0,b0][i])[j]? = some v → w4.cell? ⟨g0,i * 7 + j,none⟩ = some v := fun i hi j v hv => by
  obtain ⟨b,o,e,_,hr⟩ := RecAt.range hX4.l0 hi
  cases e
  have := hr j v hv
  rwa [Nat.zero_add] at this
 have l0 : w4.cell? ⟨g0,0,none⟩ = some (.int .i64 0) := by have := hl0 0 (by simp) 0 _ rfl; rw [show ([a0,b0][0]).f = 0 from qa] at this; exact this
 have l1 : w4.cell? ⟨g0,1,none⟩ = some (.int .i64 3) := by have := hl0 0 (by simp) 1 _ rfl; rw [show ([a0,b0][0]).t = 3 from qb] at this; exact this
 have l8 : w4.cell? ⟨g0,8,none⟩ = some (.int .i64 4) := by have := hl0 1 (by simp) 1 _ rfl; rw [show ([a0,b0][1]).t = 4 from qc] at this; exact this
 have l9 : w4.cell? ⟨g0,9,none⟩ = some (.int .i64 2) := by have := hl0 1 (by simp) 2 _ rfl; rw [show ([a0,b0][1]).x = 2 from qd] at this; exact this
 have kb4 : Hid (w4.heap[w2.heap.size]? = some (.cells #[.int .i64 24,.slice sa 1 sc,.slice (some ⟨T,0,none⟩) 2 2] 39 (0,0))) := (hb4.block _ (Array.getElem?_eq_some_iff.1 hbx3.out).1).trans hbx3.out
 have hs24 : w2.heap.size < w4.heap.size := (Array.getElem?_eq_some_iff.1 kb4.out).1
 have hh := xheight w4
 have hf1 : Hid (∀ W,Below w2.heap.size w2 W → Calls Tryz.prog 21 #[.agg #[.int .i64 24,.slice sa 1 sc,.slice (some ⟨T,0,none⟩) 2 2],.int .i64 0,.int .i64 12] W (XbEnd 1 1 W)) := fun W hb => xbet 0 12 (by omega) 1 1 (wi_a _ _) (wi_b _) W (hXh.out W hb)
 have hf2 : Hid (∀ W,Below w2.heap.size w2 W → Calls Tryz.prog 21 #[.agg #[.int .i64 24,.slice sa 1 sc,.slice (some ⟨T,0,none⟩) 2 2],.int .i64 12,.int .i64 24] W (XbEnd 1 0 W)) := fun W hb => xbet 12 24 (by omega) 1 0 (wi_c _ _) (wi_d _) W (hXh.out W hb)
 have hB4w : Hid (Below w.heap.size w w4) := hb2h.out.trans (hB4.out.mono hb2h.out.size)
 clear hl0 qa qb qc qd hqh hX4 hXh k3 k4 hbx3 hB3 hb2h hb4 hg3 hg4
 go_wp2_with (first
  | (go_at_call 11; refine hh.mono ?_; rintro e w5 ⟨rfl,hb5⟩; have hB5 : Hid (Below w2.heap.size w2 w5) := hB4.out.trans (hb5.mono hB4.out.size); have kb : w5.heap[w2.heap.size]? = some (.cells #[.int .i64 24,.slice sa 1 sc,.slice (some ⟨T,0,none⟩) 2 2] 39 (0,0)) := (hb5.block _ hs24).trans kb4.out; have hb45 : Hid (Below w4.heap.size w4 w5) := hb5; clear hh c0 c1 c2 d0 d1 l0 l1 l8 l9 hb5)
  | (refine wpList_load_row rfl 39 _ rfl w2.heap.size rfl 39 _ (0,0) _ kb Tryz.underlying39 rfl (info39w _ _ _) ?_)
  | (go_at_call 21; refine (hf1.out w5 hB5.out).mono ?_; rintro e w6 ⟨gu,pu,ru,mu,ku,rfl,u2,u5,hgu,hb6⟩; have hB6 : Hid (Below w2.heap.size w2 w6) := hB5.out.trans (hb6.mono hB5.out.size); have kc : w6.heap[w2.heap.size]? = some (.cells #[.int .i64 24,.slice sa 1 sc,.slice (some ⟨T,0,none⟩) 2 2] 39 (0,0)) := (hb6.block _ (Array.getElem?_eq_some_iff.1 kb).1).trans kb; have hu6 : Hid (w6.cell? ⟨gu,2,none⟩ = some (.slice pu 1 mu) ∧ w6.cell? ⟨gu,5,none⟩ = some (.slice ru 1 ku) ∧ gu < w6.heap.size) := ⟨u2,u5,hgu⟩; have hb46 : Hid (Below w4.heap.size w4 w6) := hb45.out.trans (hb6.mono hb45.out.size); clear hf1 kb u2 u5 hgu hb6 hB5 hb45)
  | (refine wpList_load_row rfl 39 _ rfl w2.heap.size rfl 39 _ (0,0) _ kc Tryz.underlying39 rfl (info39w _ _ _) ?_)
  | (go_at_call 21; refine (hf2.out w6 hB6.out).mono ?_; rintro e w7 ⟨gv,pv,rv,mv,kv,rfl,v2,v5,hgv,hb7⟩; have kd : w7.heap[w2.heap.size]? = some (.cells #[.int .i64 24,.slice sa 1 sc,.slice (some ⟨T,0,none⟩) 2 2] 39 (0,0)) := (hb7.block _ (Array.getElem?_eq_some_iff.1 kc).1).trans kc; have hu7 : Hid ((w7.cell? ⟨gu,2,none⟩ = some (.slice pu 1 mu) ∧ w7.cell? ⟨gu,5,none⟩ = some (.slice ru 1 ku) ∧ gu < w7.heap.size) ∧ (w7.cell? ⟨gv,2,none⟩ = some (.slice pv 1 mv) ∧ w7.cell? ⟨gv,5,none⟩ = some (.slice rv 0 kv) ∧ gv < w7.heap.size)) := ⟨⟨(hb7.cell hu6.out.2.2).trans hu6.out.1,(hb7.cell hu6.out.2.2).trans hu6.out.2.1,Nat.lt_of_lt_of_le hu6.out.2.2 hb7.size⟩,v2,v5,hgv⟩; have hb47 : Hid (Below w4.heap.size w4 w7) := hb46.out.trans (hb7.mono hb46.out.size); clear hf2 kc v2 v5 hgv hb7 hB6 hb46 hu6)
  | (refine wpList_load_row rfl 39 _ rfl w2.heap.size rfl 39 _ (0,0) _ kd Tryz.underlying39 rfl (info39w _ _ _) ?_)
  | (go_at_call 21; refine (hno.out w7 T sa sc).mono ?_; rintro e w8 ⟨rfl,hb8⟩; have hu8 : Hid ((w8.cell? ⟨gu,2,none⟩ = some (.slice pu 1 mu) ∧ w8.cell? ⟨gu,5,none⟩ = some (.slice ru 1 ku) ∧ gu < w8.heap.size) ∧ (w8.cell? ⟨gv,2,none⟩ = some (.slice pv 1 mv) ∧ w8.cell? ⟨gv,5,none⟩ = some (.slice rv 0 kv) ∧ gv < w8.heap.size)) := ⟨⟨(hb8.cell hu7.out.1.2.2).trans hu7.out.1.1,(hb8.cell hu7.out.1.2.2).trans hu7.out.1.2.1,Nat.lt_of_lt_of_le hu7.out.1.2.2 hb8.size⟩,(hb8.cell hu7.out.2.2.2).trans hu7.out.2.1,(hb8.cell hu7.out.2.2.2).trans hu7.out.2.2.1,Nat.lt_of_lt_of_le hu7.out.2.2.2 hb8.size⟩; have hb48 : Hid (Below w4.heap.size w4 w8) := hb47.out.trans (hb8.mono hb47.out.size); clear hno kd hb8 hb47 hu7)
  | (go_at_call 9; refine (xnone w8).mono ?_; rintro e w9 ⟨rfl,hb9⟩; have m1 := (hb9.cell hu8.out.1.2.2).trans hu8.out.1.1; have m2 := (hb9.cell hu8.out.1.2.2).trans hu8.out.1.2.1; have m3 := (hb9.cell hu8.out.2.2.2).trans hu8.out.2.1; have m4 := (hb9.cell hu8.out.2.2.2).trans hu8.out.2.2.1; have hb49 : Hid (Below w4.heap.size w4 w9) := hb48.out.trans (hb9.mono hb48.out.size); clear hb9 hb48 hu8))
 go_ret
 exact ⟨rfl,hB4w.out.trans (hb49.out.mono hB4w.out.size)⟩
end Go.Proofs.YtaphggjakaghjaaGreatDoor
