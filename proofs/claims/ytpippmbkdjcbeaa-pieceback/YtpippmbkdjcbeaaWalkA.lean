/-
  What is proved here: what made and walk answer, and that walk's iterator goes through the pieces of a text, one round a piece.
-/
import Derived.Test.YtpippmbkdjcbeaaRows
import Derived.Test.YtpippmbkdjcbeaaRange
import Derived.Test.YtpippmbkdjcbeaaMath
import Derived.RangeFuncNested
import Derived.RangeFuncBound
import Derived.RangeFuncCalls
import Derived.RangeFuncLeaves
import Derived.Shelf.Abstract
import Derived.Shelf.RegionOpen
import Derived.WalkKit
import Derived.WalkSpells
import Derived.OwnWalkIn
import Derived.TacticsInMore
import Derived.LoopNIn
import Derived.LoopIn
import Derived.LaidEqlPtr
import Derived.Lib.Builder
namespace Go.Proofs.Ytpippmbkdjcbeaa
open Go.RowKit Go.Shelf

theorem wide_fn (f : FuncId) : Fence.wide.fn f = True := rfl
theorem wide_depth : Fence.wide.depth = none := rfl
theorem wide_round : Fence.wide.round = none := rfl
attribute [local go_sem] Oper.semAt_some wide_fn wide_depth

theorem info25 : (Try.prog.info? 25).map (fun i => (i.size, i.bytes)) = some (2, 32) := by kernel_rfl

theorem run_eql_ptr_nil {P : Program} (w : World) {tp te : TypeId} (a : Addr) (hp : P.underlying tp = some (.pointer te)) :
    (binOp .eql tp (.pointer none) (.pointer (some a))).run P w = .ok (.bool false) w := by
  have h : ∀ d : Nat, (Op.equalIn (d + 1) tp (.pointer none) (.pointer (some a))).run P w = .ok false w := fun d => by
    simp [Op.equalIn, run_underlying hp]
  simp only [binOp]
  simp [Op.equal, Op.maxDepth, h 9999]

set_option maxHeartbeats 400000 in
theorem made_nil (w : World) : Calls Try.prog 21 #[.pointer none] w fun e w' => e = .returned (.bool false) ∧ w' = w := by
  go_enter Try.func21, Try.ntmps21
  go_wp2
  go_ret
  exact ⟨rfl, rfl⟩

set_option maxHeartbeats 400000 in
theorem made_zero (t : Nat) (w : World) (h : w.cell? ⟨t, 0, none⟩ = some (.pointer none)) : Calls Try.prog 21 #[.pointer (some ⟨t, 0, none⟩)] w fun e w' => e = .returned (.bool false) ∧ w' = w := by
  have he := run_eql_ptr_nil w ⟨t, 0, none⟩ Try.underlying22
  go_enter Try.func21, Try.ntmps21
  go_wp2
  go_ret
  exact ⟨rfl, rfl⟩

set_option maxHeartbeats 400000 in
theorem made_yes (t : Nat) (w : World) (h : w.cell? ⟨t, 0, none⟩ = some (.pointer (some ⟨t, 0, none⟩))) : Calls Try.prog 21 #[.pointer (some ⟨t, 0, none⟩)] w fun e w' => e = .returned (.bool true) ∧ w' = w := by
  obtain ⟨j, hj, _⟩ := Option.map_eq_some_iff.1 info25
  have he := run_eql_ptr_same w ⟨t, 0, none⟩ Try.underlying22 hj
  go_enter Try.func21, Try.ntmps21
  go_wp2
  go_ret
  exact ⟨rfl, rfl⟩

set_option maxHeartbeats 400000 in
theorem walk_any (t : Option Addr) (w : World) : Calls Try.prog 23 #[.pointer t] w fun e w' => e = .returned (.func (.func 37) #[] #[.pointer (some ⟨w.heap.size, 0, none⟩)]) ∧ w' = w.alloc (.cells #[.pointer t] 22) := by
  go_enter Try.func23, Try.ntmps23
  go_wp2
  go_ret
  exact ⟨rfl, rfl⟩

/-- A piece as a cell. -/
def cellOf (r : List UInt8) : Value := .string ⟨r.toArray⟩
/-- What walk's iterator reads: its own box, the text's block, the pieces' row. -/
structure Read (Bt t : Nat) (sv : Value) (rs : List (List UInt8)) (W : World) : Prop where
  box : W.heap[Bt]? = some (.cells #[.pointer (some ⟨t, 0, none⟩)] 22 (0, 0))
  text : W.heap[t]? = some (.cells #[.pointer (some ⟨t, 0, none⟩), sv] 25 (0, 0))
  row : W.ownsRow 0 55 1 sv rs.length (rs.map cellOf)

/-- Piece i, as a text. -/
def pc (rs : List (List UInt8)) (i : Nat) : ByteArray := ⟨(rs[i]?.getD []).toArray⟩
theorem pc_eq {rs : List (List UInt8)} {i : Nat} (h : i < rs.length) : pc rs i = ⟨rs[i].toArray⟩ := by simp [pc, h]
theorem pc_size {rs : List (List UInt8)} {i : Nat} (h : i < rs.length) : (pc rs i).size = rs[i].length := by rw [pc_eq h]; rfl
def encRun (rs : List (List UInt8)) (i : Nat) : Array Value := #[.int .i64 (start rs i), .agg #[.string (pc rs i)]]

set_option maxRecDepth 100000 in
set_option maxHeartbeats 2000000 in
theorem walk1_gives (Bt t : Nat) (sv : Value) (rs : List (List UInt8)) (htot : rs.flatten.length ≤ 4096) (hcnt : rs.length ≤ 4096) :
    Gives Try.prog 37 #[.pointer (some ⟨Bt, 0, none⟩)] rs.length (encRun rs) (Read Bt t sv rs) := by
  intro l J Jx W hJ hJx hRd hY h0
  have hr := hRd _ _ _ h0
  have hb0 : W.cell? ⟨Bt, 0, none⟩ = some (.pointer (some ⟨t, 0, none⟩)) := by rw [Lib.cell_of_heap hr.box]; rfl
  have ht0 : W.cell? ⟨t, 0, none⟩ = some (.pointer (some ⟨t, 0, none⟩)) := by rw [Lib.cell_of_heap hr.text]; rfl
  have ht1 : W.cell? ⟨t, 1, none⟩ = some sv := by rw [Lib.cell_of_heap hr.text]; rfl
  rcases hr.row.2 with ⟨rfl, hn⟩ | ⟨g, cap, cur, rfl, _, hg, hc1, hc2, hc3, hc4⟩
  · refine callsIn_wide (n := 0).1 ?_
    refine callsIn_of_wp Try.func37 rfl trivial ?_ rfl
    simp only [Try.ntmps37, List.size_toArray, List.length_cons, List.length_nil, Nat.reduceAdd, Nat.reduceSub, Array.replicate_succ, Array.replicate_zero, List.push_toArray, List.append_toArray, List.nil_append, List.cons_append]
    gi_wp2_with (gi_at_call 21; refine (callsIn_wide.2 (made_yes _ _ ht0)).mono ?_; rintro e w' ⟨rfl, rfl⟩)
    gi_loopw [3, 14] (fun p i wr => p = .int .i64 0 ∧ i = .int .i64 0 ∧ J 0 Noth wr) (fun _ _ _ => 0)
    case atStart => exact ⟨rfl, rfl, h0⟩
    case round =>
      obtain ⟨rfl, rfl, hJs⟩ := hrel
      gi_wp2
      go_end0
      rw [hn]
      exact ⟨⟨_, rfl⟩, .inl hJs⟩
  · refine callsIn_wide (n := 0).1 ?_
    refine callsIn_of_wp Try.func37 rfl trivial ?_ rfl
    simp only [Try.ntmps37, List.size_toArray, List.length_cons, List.length_nil, Nat.reduceAdd, Nat.reduceSub, Array.replicate_succ, Array.replicate_zero, List.push_toArray, List.append_toArray, List.nil_append, List.cons_append]
    gi_wp2_with (gi_at_call 21; refine (callsIn_wide.2 (made_yes _ _ ht0)).mono ?_; rintro e w' ⟨rfl, rfl⟩)
    gi_loopw [3, 14] (fun p i wr => ∃ (k : Nat) (X : Nat → Prop), k ≤ rs.length ∧ p = .int .i64 (start rs k) ∧ i = .int .i64 k ∧ J k X wr) (fun _ i _ => rs.length - (intOf i).toNat)
    case atStart => exact ⟨0, Noth, Nat.zero_le _, rfl, rfl, h0⟩
    case round =>
      obtain ⟨k, X, hk, rfl, rfl, hJs⟩ := hrel
      by_cases hlt : k < rs.length
      · have hrow := (hRd _ _ _ hJs).row
        have hck : wr.cell? ⟨g, k, none⟩ = some (.string ⟨rs[k].toArray⟩) := by
          rw [hrow.cellAt k (by omega)]; simp [cellOf, hlt]
        have hst := start_succ rs hlt
        have hsl := start_le rs (k + 1)
        have hJa : J k (fun i => X i ∨ i = wr.heap.size) (wr.alloc (.cells #[.string ⟨rs[k].toArray⟩] 55)) :=
          hJ _ _ _ _ _ hJs (Turns.alloc _ _ _) (fun i h => h.elim .inl (fun e => .inr (by simp; omega)))
        have hYk := hY k _ _ hlt hJa
        have hen : encRun rs k = #[.int .i64 (start rs k), .agg #[.string ⟨rs[k].toArray⟩]] := by simp [encRun, pc_eq hlt]
        rw [hen] at hYk
        obtain ⟨fn, tmps, assign, body, hy, hR⟩ := hYk
        gi_wp2
        refine hR.mono ?_
        rintro e W3 ⟨hk3, (⟨rfl, hJ3⟩ | ⟨rfl, hJx3⟩)⟩
        · have hr3 := hk3.get (k := wr.heap.size) (.inr rfl) (World.alloc_heap_new wr _)
          have hc3 : W3.cell? ⟨wr.heap.size, 0, none⟩ = some (.string ⟨rs[k].toArray⟩) := by rw [Lib.cell_of_heap hr3]; rfl
          gi_wp2
          go_roundw
          case rel => exact ⟨k + 1, _, by omega, by simp [hst], by simp, hJ3⟩
          case measure => simp [intOf]; omega
        · gi_wp2
          refine bodyPost_ret (results_none rfl _ _ _) rfl ?_
          exact ⟨⟨_, rfl⟩, .inr ⟨k, hlt, hJx _ _ _ _ _ hJx3 (Turns.refl _ _) (fun _ h => h.elim)⟩⟩
      · obtain rfl : k = rs.length := by omega
        gi_wp2
        go_end0
        exact ⟨⟨_, rfl⟩, .inl (hJ _ _ _ _ _ hJs (Turns.refl _ _) (fun _ h => h.elim))⟩

end Go.Proofs.Ytpippmbkdjcbeaa
