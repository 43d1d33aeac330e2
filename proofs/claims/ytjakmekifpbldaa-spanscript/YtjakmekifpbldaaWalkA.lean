/-
  What is proved here: what the small functions of span answer: within, May, made, lengthOf, Len, bytesOf, looksOf.
-/
import Derived.Test.YtjakmekifpbldaaRows
import Derived.Test.YtjakmekifpbldaaMath
import Derived.WalkKit
import Derived.WalkSpells
import Derived.Shelf.Abstract
import Derived.LaidEqlPtr
import Derived.Lib.Builder
import Derived.OwnWalk
import Derived.Laws.StructEq
namespace Go.Proofs.Ytjakmekifpbldaa
open Go.RowKit Go.Shelf

def chV (c : Ch) : Value := .agg #[.int .i64 c.s, .int .i64 c.t, .int .i64 c.k]
def spV (p : Sp) : Value := .agg #[.int .i64 p.1, chV p.2]
def chCells (c : Ch) : List Value := [.int .i64 c.s, .int .i64 c.t, .int .i64 c.k]
def spCells (p : Sp) : List Value := .int .i64 p.1 :: chCells p.2
def rowOf (ps : List Sp) : List Value := ps.flatMap spCells
def mayC (c : Ch) : Bool := decide (0 ≤ c.s) && decide (c.s ≤ 64) && (decide (0 ≤ c.t) && decide (c.t ≤ 15)) && (decide (0 ≤ c.k) && decide (c.k ≤ 1))

theorem rowOf_length (ps : List Sp) : (rowOf ps).length = ps.length * 4 := by
  induction ps with
  | nil => rfl
  | cons p r ih => simp [rowOf, List.flatMap_cons, spCells, chCells] at ih ⊢; omega
theorem rowOf_append (a b : List Sp) : rowOf (a ++ b) = rowOf a ++ rowOf b := by simp [rowOf]
theorem rowOf_get (ps : List Sp) {i : Nat} (h : i < ps.length) (j : Nat) (hj : j < 4) : (rowOf ps)[i * 4 + j]? = (spCells ps[i])[j]? := by
  have hs : ps = ps.take i ++ (ps[i] :: ps.drop (i + 1)) := by simp
  conv => lhs; rw [hs]
  rw [rowOf_append]
  have hl : (rowOf (ps.take i)).length = i * 4 := by rw [rowOf_length, List.length_take, Nat.min_eq_left (by omega)]
  rw [List.getElem?_append_right (by omega), hl]
  have : rowOf (ps[i] :: ps.drop (i + 1)) = spCells ps[i] ++ rowOf (ps.drop (i + 1)) := by unfold rowOf; rw [List.flatMap_cons]
  rw [this, List.getElem?_append_left (by simp [spCells, chCells]; omega)]
  congr 1; omega

theorem info46 : (Try.prog.info? 46).map (fun i => (i.size, i.bytes)) = some (5, 56) := by kernel_rfl

set_option maxHeartbeats 400000 in
theorem within_any (a b : Int) (w : World) : Calls Try.prog 33 #[.int .i64 a, .int .i64 b] w fun e w' => e = .returned (.bool (decide (0 ≤ a) && decide (a ≤ b))) ∧ w' = w := by
  go_enter Try.func33, Try.ntmps33
  go_wp2
  all_goals (go_ret; refine ⟨?_, rfl⟩; congr 2; simp_all <;> omega)

set_option maxHeartbeats 1000000 in
theorem may_any (c : Ch) (w : World) : Calls Try.prog 10 #[chV c] w fun e w' => e = .returned (.bool (mayC c)) ∧ Below w.heap.size w w' := by
  unfold chV
  go_enter Try.func10, Try.ntmps10
  go_wp2_with (go_at_call 33; refine (within_any _ _ _).mono ?_; rintro e w' ⟨rfl, rfl⟩)
  all_goals (go_ret; refine ⟨?_, (Below.refl _ w).alloc (Nat.le_refl _) _⟩; congr 2; simp_all [mayC] <;> omega)

theorem run_eql_ptr_nil {P : Program} (w : World) {tp te : TypeId} (a : Addr) (hp : P.underlying tp = some (.pointer te)) :
    (binOp .eql tp (.pointer none) (.pointer (some a))).run P w = .ok (.bool false) w := by
  have h : ∀ d : Nat, (Op.equalIn (d + 1) tp (.pointer none) (.pointer (some a))).run P w = .ok false w := fun d => by
    simp [Op.equalIn, run_underlying hp]
  simp only [binOp]
  simp [Op.equal, Op.maxDepth, h 9999]

set_option maxHeartbeats 400000 in
theorem made_nil (w : World) : Calls Try.prog 34 #[.pointer none] w fun e w' => e = .returned (.bool false) ∧ w' = w := by
  go_enter Try.func34, Try.ntmps34
  go_wp2
  go_ret
  exact ⟨rfl, rfl⟩

set_option maxHeartbeats 400000 in
theorem made_zero (t : Nat) (w : World) (h : w.cell? ⟨t, 0, none⟩ = some (.pointer none)) : Calls Try.prog 34 #[.pointer (some ⟨t, 0, none⟩)] w fun e w' => e = .returned (.bool false) ∧ w' = w := by
  have he := run_eql_ptr_nil w ⟨t, 0, none⟩ Try.underlying25
  go_enter Try.func34, Try.ntmps34
  go_wp2
  go_ret
  exact ⟨rfl, rfl⟩

set_option maxHeartbeats 400000 in
theorem made_yes (t : Nat) (w : World) (h : w.cell? ⟨t, 0, none⟩ = some (.pointer (some ⟨t, 0, none⟩))) : Calls Try.prog 34 #[.pointer (some ⟨t, 0, none⟩)] w fun e w' => e = .returned (.bool true) ∧ w' = w := by
  obtain ⟨j, hj, _⟩ := Option.map_eq_some_iff.1 info46
  have he := run_eql_ptr_same w ⟨t, 0, none⟩ Try.underlying25 hj
  go_enter Try.func34, Try.ntmps34
  go_wp2
  go_ret
  exact ⟨rfl, rfl⟩

/-- A row of spans, or of runs. -/
theorem row_cell {W : World} {base : Nat} {e : TypeId} {v : Value} {n : Nat} {ps : List Sp} (h : W.ownsRow base e 4 v n (rowOf ps)) {g cap : Nat} (hv : v = .slice (some ⟨g, 0, none⟩) n cap) {i : Nat} (hi : i < ps.length) :
    W.cell? ⟨g, i * 4, none⟩ = some (.int .i64 ps[i].1) ∧ W.cell? ⟨g, i * 4 + 1, none⟩ = some (.int .i64 ps[i].2.s) ∧ W.cell? ⟨g, i * 4 + 2, none⟩ = some (.int .i64 ps[i].2.t) ∧ W.cell? ⟨g, i * 4 + 3, none⟩ = some (.int .i64 ps[i].2.k) := by
  subst hv
  have hl := rowOf_length ps
  have hc : ∀ j u, (rowOf ps)[j]? = some u → W.cell? ⟨g, j, none⟩ = some u := fun j u hu => by
    have := h.cells (g := g) rfl j u hu
    have e : (⟨g, 0, none⟩ : Addr).add j = ⟨g, j, none⟩ := by
      unfold Addr.add; split
      · rename_i h0; rw [h0]
      · simp
    rwa [e] at this
  have g0 := rowOf_get ps hi 0 (by omega)
  have g1 := rowOf_get ps hi 1 (by omega)
  have g2 := rowOf_get ps hi 2 (by omega)
  have g3 := rowOf_get ps hi 3 (by omega)
  exact ⟨hc _ _ g0, hc _ _ g1, hc _ _ g2, hc _ _ g3⟩

end Go.Proofs.Ytjakmekifpbldaa
