/-
  What is proved here: what the document's run, sign and lone answer of a mass.
-/
import Derived.Test.YthcphnifnfnceaaGreatDoorG26
namespace Go.Proofs.YthcphnifnfnceaaGreatDoor
open Go.RowKit Go.Shelf
set_option maxRecDepth 100000
set_option maxHeartbeats 1000000

theorem rrun41_any (m : Ms) (w : World) : Calls Tryz.prog 41 #[.agg (msC m)] w fun e w' => e = .returned (.bool (!alB m)) ∧ Below w.heap.size w w' := by
 obtain ⟨f,t,k,s,u,q⟩ := m
 have hB := (Below.refl w.heap.size w).alloc (Nat.le_refl _) (.cells #[.int .i64 f,.int .i64 t,.int .i64 k,.int .i64 s,.int .i64 u,.int .i64 q] 58)
 show Calls Tryz.prog 41 #[.agg #[.int .i64 f,.int .i64 t,.int .i64 k,.int .i64 s,.int .i64 u,.int .i64 q]] w _
 unfold alB
 by_cases h3 : k = 3
 ·rw [decide_eq_true (.inl h3)]
  subst h3
  go_enter Tryz.func41,Tryz.ntmps41
  go_wp2_with fail
  go_ret
  exact ⟨rfl,hB⟩
 ·have q3 : (k != 3) = true := by simpa using h3
  by_cases h4 : k = 4
  ·rw [decide_eq_true (.inr (.inl h4))]
   subst h4
   clear h3
   go_enter Tryz.func41,Tryz.ntmps41
   go_wp2_with fail
   go_ret
   exact ⟨rfl,hB⟩
  ·have q4 : (k != 4) = true := by simpa using h4
   by_cases h5 : k = 5
   ·rw [decide_eq_true (.inr (.inr h5))]
    subst h5
    clear h3 h4
    go_enter Tryz.func41,Tryz.ntmps41
    go_wp2_with fail
    go_ret
    exact ⟨rfl,hB⟩
   ·have q5 : (k != 5) = true := by simpa using h5
    rw [decide_eq_false (fun h => h.elim h3 (fun h => h.elim h4 h5))]
    clear h3 h4 h5
    go_enter Tryz.func41,Tryz.ntmps41
    go_wp2_with fail
    go_ret
    exact ⟨rfl,hB⟩
theorem rsign_any (a : Pa) (m : Ms) (hm : MFit a.t m) (w : World) : Calls Tryz.prog 42 #[.agg (paC a),.agg (msC m)] w fun e w' => e = .returned (.bool (sgB a.t m)) ∧ Below w.heap.size w w' := by
 have hB1 := ((Below.refl w.heap.size w).alloc (Nat.le_refl _) (Obj.cells (paC a) 27)).alloc (by simp) (.cells (msC m) 58)
 have hr : (w.alloc (.cells (paC a) 27)).heap[w.heap.size]? = some (.cells (paC a) 27 (0,0)) := World.alloc_heap_new w _
 have c0 : ((w.alloc (.cells (paC a) 27)).alloc (.cells (msC m) 58)).cell? ⟨w.heap.size,0,none⟩ = some (.string a.t) := by
  rw [Lib.cell_of_heap ((Below.heap_alloc _ _ _ (by simp)).trans hr)]
  rfl
 have h0 := hm.f0
 have hft := hm.ft
 have hts := hm.ts
 have hbt := hm.one
 unfold sgB
 obtain ⟨f,t,k,s,u,q⟩ := m
 simp only at h0 hft hts hbt
 obtain ⟨F,rfl⟩ : ∃ F : Nat,f = F := ⟨f.toNat,by omega⟩
 simp only [Int.toNat_natCast]
 have hF : F < a.t.size := by omega
 have hFi : (F : Int) < a.t.size := by omega
 have hbq := bt_eq hF
 unfold msC at *
 simp only at *
 clear hm hr
 by_cases k2 : k = 2
 ·subst k2
  clear hbt
  by_cases d : bt a.t F = 45
  ·rw [decide_eq_true ⟨rfl,d⟩]
   rw [d] at hbq
   have hbe : ((a.t[F]'hF).toNat : Int) = 45 := hbq.symm
   clear d hbq
   go_enter Tryz.func42,Tryz.ntmps42
   go_wp2_with fail
   go_ret
   exact ⟨rfl,hB1⟩
  ·rw [decide_eq_false (fun h => d h.2)]
   have hbe : (((a.t[F]'hF).toNat : Int) == 45) = false := by rw [beq_eq_false_iff_ne,← hbq]; exact d
   clear d hbq
   go_enter Tryz.func42,Tryz.ntmps42
   go_wp2_with fail
   go_ret
   exact ⟨rfl,hB1⟩
 ·rw [decide_eq_false (fun h => k2 h.1)]
  have q2 : (k == 2) = false := by simpa using k2
  clear hbt k2 hbq
  go_enter Tryz.func42,Tryz.ntmps42
  go_wp2_with fail
  go_ret
  exact ⟨rfl,hB1⟩
theorem hyW_bw {s : Int} (h0 : 0 ≤ s) (h1 : s ≤ 64) : hyW s = bw 45 s := by
 unfold hyW
 rcases wErr_cases dash s with ⟨-,hv,h⟩ | ⟨-,-,-,-,h⟩ | ⟨-,h,-⟩
 ·obtain rfl : s = 0 := by omega
  rw [hv]
  unfold bw
  rw [Int.mul_zero]
  rfl
 ·exact absurd h (by decide)
 ·rw [h]
  show (0 : Int) + bw (bt dash 0) s = bw 45 s
  rw [show bt dash 0 = 45 by decide +kernel]
  omega
theorem lone_any (m : Ms) (hk : alB m = true) (hm : 0 ≤ m.w ∧ m.w ≤ 4095) (hs : 0 ≤ m.s ∧ m.s ≤ 64) (w : World) : Calls Tryz.prog 45 #[.agg (msC m)] w fun e w' => e = .returned (.agg (itC (loneI m))) ∧ Below w.heap.size w w' := by
 have hh := rbyteWidth_any 45 m.s (by decide) hs.1 hs.2
 rw [← hyW_bw hs.1 hs.2] at hh
 have hE : Hid (∀ (x : It),loneI m = x → ∀ (W2 : World) (tm : Array Value),tm.getD 2 undef = .pointer (some ⟨w.heap.size + 1,0,none⟩) → IX W2 (w.heap.size + 1) x → Below w.heap.size w W2 → bodyPost Tryz.prog Tryz.f45 (fun e w' => e = .returned (.agg (itC (loneI m))) ∧ Below w.heap.size w w') .ret ⟨tm,[]⟩ W2) := fun x hx W2 tm h2 hI hb => by
  refine bodyPost_ret (results_cell_row rfl _ _ (w.heap.size + 1) 51 (itC x) (0,0) _ h2 hI.row Tryz.underlying51 rfl (info51 _)) rfl ⟨?_,hb⟩
  rw [hx]
 have h1 : Hid (m.k = 3 → loneI m = ⟨2,m.f,m.t,m.w,m.w / 2,m.w / 3,0,false⟩) := fun h => by unfold loneI; rw [if_pos h]
 have h2 : Hid (m.k = 4 → loneI m = ⟨4,m.f,m.t,0,0,0,0,false⟩) := fun h => by unfold loneI; rw [if_neg (by omega),if_pos h]
 have h3 : Hid (m.k = 5 → loneI m = ⟨3,m.f,m.t,hyW m.s,0,0,50,true⟩) := fun h => by unfold loneI; rw [if_neg (by omega),if_neg (by omega),if_pos h]
 have hkk : m.k = 3 ∨ m.k = 4 ∨ m.k = 5 := of_decide_eq_true hk
 generalize loneI m = X at *
 clear hk
 obtain ⟨f,t,k,s,wd,q⟩ := m
 unfold msC at *
 simp only at *
 have hd2 : wd.tdiv 2 = wd / 2 := Int.tdiv_eq_ediv_of_nonneg hm.1
 have hd3 : wd.tdiv 3 = wd / 3 := Int.tdiv_eq_ediv_of_nonneg hm.1
 have hb2 : 0 ≤ wd / 2 ∧ wd / 2 ≤ 4095 := by omega
 have hb3 : 0 ≤ wd / 3 ∧ wd / 3 ≤ 4095 := by omega
 obtain ⟨hm0,hm1⟩ := hm
 by_cases k3 : k = 3
 ·have e1 := h1.out k3
  subst k3
  have hE' := hE.out _ e1
  clear hh h1 h2 h3 hE e1 hkk
  go_enter Tryz.func45,Tryz.ntmps45
  go_wp2_with fail
  exact hE' _ _ rfl ⟨two_new w _ ⟨2,f,t,wd,wd / 2,wd / 3,0,false⟩⟩ (two_below w _ _)
 by_cases k4 : k = 4
 ·have e1 := h2.out k4
  subst k4
  have hE' := hE.out _ e1
  clear hh h1 h2 h3 hE e1 hkk k3
  go_enter Tryz.func45,Tryz.ntmps45
  go_wp2_with fail
  exact hE' _ _ rfl ⟨two_new w _ ⟨4,f,t,0,0,0,0,false⟩⟩ (two_below w _ _)
 ·have k5 : k = 5 := by omega
  have e1 := h3.out k5
  subst k5
  have hE' := hE.out _ e1
  clear h1 h2 h3 hE e1 hkk k3 k4
  go_enter Tryz.func45,Tryz.ntmps45
  go_wp2_with fail
  refine lo_r6 _ (fun _ _ _ _ _ h => h) _ _ w.heap.size (w.heap.size + 1) ⟨f,t,5,s,wd,q⟩ it0 _ ⟨(Below.heap_alloc _ _ _ (by simp)).trans (heap_new w _)⟩ hh ⟨two_new w _ it0⟩ (by omega) ?_
  unfold fr45l
  have hI2 : IX ((World.drew ((w.alloc (.cells #[.int .i64 f,.int .i64 t,.int .i64 5,.int .i64 s,.int .i64 wd,.int .i64 q] 58)).alloc (.cells (itC it0) 51))).setRow (w.heap.size + 1) (itC ⟨3,f,t,hyW s,0,0,50,true⟩)) (w.heap.size + 1) ⟨3,f,t,hyW s,0,0,50,true⟩ := IX.set (W := World.drew _) ⟨two_new w _ it0⟩ _
  have hb2 : Below w.heap.size w ((World.drew ((w.alloc (.cells #[.int .i64 f,.int .i64 t,.int .i64 5,.int .i64 s,.int .i64 wd,.int .i64 q] 58)).alloc (.cells (itC it0) 51))).setRow (w.heap.size + 1) (itC ⟨3,f,t,hyW s,0,0,50,true⟩)) := below_row (W := World.drew _) (below_drewM (two_below w _ _) 1) (by show _ ≤ (World.heap _).size; simp; omega) (by omega) _
  have hI3 : Hid (IX _ _ _) := hI2
  have hb3 : Hid (Below _ _ _) := hb2
  clear hI2 hb2
  go_wp2_with fail
  exact hE' _ _ rfl hI3.out hb3.out
end Go.Proofs.YthcphnifnfnceaaGreatDoor
