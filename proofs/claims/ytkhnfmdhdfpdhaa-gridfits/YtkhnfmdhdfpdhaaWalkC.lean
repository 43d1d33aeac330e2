/-
  What is proved here: clusters' iterator goes through the clusters of a text, one round a cluster.
-/
import Derived.Test.YtkhnfmdhdfpdhaaWalkB
import Derived.Test.YtkhnfmdhdfpdhaaRange
import Derived.Test.YtkhnfmdhdfpdhaaAppend
import Derived.RangeFuncNested
import Derived.RangeFuncBound
import Derived.RangeFuncCalls
import Derived.RangeFuncLeaves
import Derived.Shelf.Abstract
import Derived.Shelf.RegionOpen
import Derived.OwnWalkIn
import Derived.TacticsInMore
import Derived.LoopNIn
import Derived.LoopIn
import Derived.Lib.Builder
namespace Go.Proofs.Ytkhnfmdhdfpdhaa
open Go.RowKit Go.Shelf

theorem wide_fn (f : FuncId) : Fence.wide.fn f = True := rfl
theorem wide_depth : Fence.wide.depth = none := rfl
attribute [local go_sem] Oper.semAt_some wide_fn wide_depth

set_option maxHeartbeats 400000 in
theorem clusters_any (t : ByteArray) (w : World) : Calls Try.prog 101 #[.string t] w fun e w' => e = .returned (.func (.func 106) #[] #[.pointer (some ⟨w.heap.size, 0, none⟩)]) ∧ w' = w.alloc (.cells #[.string t] 9) := by
  go_enter Try.func101, Try.ntmps101
  go_wp2
  go_ret
  exact ⟨rfl, rfl⟩

/-- What the iterator reads: its own box. -/
structure Read (Bt : Nat) (t : ByteArray) (W : World) : Prop where
  box : W.heap[Bt]? = some (.cells #[.string t] 9 (0, 0))
/-- Cluster i, as a value. -/
def encC (t : ByteArray) (i : Nat) : Array Value := #[.agg #[.int .i64 (st t i : Nat), .int .i64 (st t (i + 1) : Nat), .int .i64 (kindI (bt t (st t i)))]]

set_option maxRecDepth 100000 in
set_option maxHeartbeats 2000000 in
theorem clusters1_gives (Bt : Nat) (t : ByteArray) (ht : t.size ≤ 4096) :
    Gives Try.prog 106 #[.pointer (some ⟨Bt, 0, none⟩)] (num t) (encC t) (Read Bt t) := by
  intro l J Jx W hJ hJx hRd hY h0
  refine callsIn_wide (n := 0).1 ?_
  refine callsIn_of_wp Try.func106 rfl trivial ?_ rfl
  simp only [Try.ntmps106, List.size_toArray, List.length_cons, List.length_nil, Nat.reduceAdd, Nat.reduceSub, Array.replicate_succ, Array.replicate_zero, List.push_toArray, List.append_toArray, List.nil_append, List.cons_append]
  gi_wp2
  gi_loopw [3] (fun p wr => ∃ (k : Nat) (X : Nat → Prop), k ≤ num t ∧ p = .int .i64 (st t k : Nat) ∧ J k X wr) (fun p _ => t.size - (intOf p).toNat)
  case atStart => exact ⟨0, Noth, Nat.zero_le _, rfl, h0⟩
  case round =>
    obtain ⟨k, X, hk, rfl, hJs⟩ := hrel
    have hbx := (hRd _ _ _ hJs).box
    have hc0 : wr.cell? ⟨Bt, 0, none⟩ = some (.string t) := by rw [Lib.cell_of_heap hbx]; rfl
    by_cases hlt : st t k < t.size
    · have hkn := lt_num hlt
      have hs1 := st_succ hlt
      have hs2 := st_le t (k + 1)
      have hs3 := st_lt hlt
      have hbe := bt_eq hlt
      have hYk := hY k _ _ hkn hJs
      have hen : encC t k = #[.agg #[.int .i64 (st t k : Nat), .int .i64 (st t (k + 1) : Nat), .int .i64 (kindI ((t[st t k]'hlt).toNat : Int))]] := by unfold encC; rw [hbe]
      rw [hen] at hYk
      have hE := end_any t (st t k) hlt ht wr
      have hKd := kind_any ((t[st t k]'hlt).toNat : Int) wr
      rw [← hs1] at hE
      clear hs1 hen hbe hRd hbx
      obtain ⟨fn, tmps, assign, body, hy, hR⟩ := hYk
      generalize hq0 : st t (k + 1) = q at *
      have hq : Hid (st t (k + 1) = q) := hq0
      clear hq0
      gi_wp2_with (first | (gi_at_call 107; refine (callsIn_wide.2 hE).mono ?_; rintro e w' ⟨rfl, hww⟩; subst w') | (gi_at_call 105; refine (callsIn_wide.2 hKd).mono ?_; rintro e w' ⟨rfl, hww⟩; subst w'))
      refine hR.mono ?_
      rintro e W3 ⟨hk3, (⟨rfl, hJ3⟩ | ⟨rfl, hJx3⟩)⟩
      · gi_wp2
        go_roundw
        case rel => exact ⟨k + 1, _, by omega, by rw [hq.out], hJ3⟩
        case measure => simp [intOf]; omega
      · gi_wp2
        refine bodyPost_ret (results_none rfl _ _ _) rfl ?_
        exact ⟨⟨_, rfl⟩, .inr ⟨k, hkn, hJx _ _ _ _ _ hJx3 (Turns.refl _ _) (fun _ h => h.elim)⟩⟩
    · have hkn : k = num t := by
        by_cases h : k < num t
        · exact absurd (num_lt h) hlt
        · omega
      have hJe : J (num t) Noth wr := hkn ▸ hJ _ _ _ _ _ hJs (Turns.refl _ _) (fun _ h => h.elim)
      clear hkn
      gi_wp2
      go_end0
      exact ⟨⟨_, rfl⟩, .inl hJe⟩

end Go.Proofs.Ytkhnfmdhdfpdhaa
