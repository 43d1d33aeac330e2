/-
  What is proved here: operations that come in any order; a struct that is loaded under a guard; properties that are made.
-/
import Derived.Test.YtifkelpgpdgenabWalkD
import Derived.OrdersHeld
import Derived.BigRegion
namespace Go.Proofs.Ytifkelpgpdgenab
open Go.RowKit Go.Shelf

section
variable {ρ : Operand → Value} {w : World} {ps : String} {A : Array Edge} {G : Option (Nat × Bool)} {d : Option Nat} {i j : Nat}
theorem o_load23 {B : Nat} {l : List Int} (hP : PB w B 32 l) (h : ρ (.tmp i) = .pointer (some ⟨B, 0, none⟩)) : (execOp ρ { dst := d, op := Op.load 32 (Operand.tmp i), type := 32, pos := ps, after := A, guard := G }).run Try.prog w = .ok (.value (.agg (prC l))) w := by
  have hl := run_loadVar_row (P := Try.prog) w B 32 32 (prC l) (0, 0) _ hP.row Try.underlying32 rfl (info23l hP.len)
  simp [execOp, h, Instr.loadAt, Instr.sureAddr, hl]
end
theorem results_cell_row2 {P : Program} {fn : Func} {p u : Tmp} {ty : TypeId} (h : fn.results = #[.cell p ty, .tmp u]) (tmps : Array Value) (w : World) (g : Nat) (t : TypeId) (cs : Array Value) (fr : Nat × Nat) (d : TypeDesc)
    (hp : tmps.getD p undef = .pointer (some ⟨g, 0, none⟩)) (hg : w.heap[g]? = some (.cells cs t fr))
    (hu : P.underlying ty = some d) (hd : (match d with | .struct _ | .array _ _ => true | _ => false) = true) (hi : (P.info? ty).map (·.size) = some cs.size) :
    (results fn tmps).run P w = .ok (.tuple #[.agg cs, tmps.getD u undef]) w := by
  have hp' : tmps[p]?.getD undef = .pointer (some ⟨g, 0, none⟩) := by simpa using hp
  rw [results_cell_tmp h]
  simp [hp', asAddr, run_loadVar_row w g t ty cs fr d hg hu hd hi, Result.andThen]

theorem mayS_isP {n v : Int} (h : mayS n v = true) : 1 ≤ n ∧ n ≤ 17 := by
  unfold mayS at h
  cases hp : isP n
  · rw [hp] at h; cases h
  · exact (isP_iff n).1 hp

theorem wpList_load_want {P : Program} {ops : Array Oper} {rest : List Oper} {o : Oper} {a : Act} {w : World} {Q : Exit → Act → World → Prop} (ty : TypeId) (x : Operand) (ho : o.op = .load ty x) (hw : Region.wanted o (yielded ops a.tmps) = true)
    (g : Nat) (hx : a.eval x = .pointer (some ⟨g, 0, none⟩)) (t : TypeId) (cs : Array Value) (fr : Nat × Nat) (d : TypeDesc) (hg : w.heap[g]? = some (.cells cs t fr))
    (hu : P.underlying ty = some d) (hd : (match d with | .struct _ | .array _ _ => true | _ => false) = true) (hi : (P.info? ty).map (·.size) = some cs.size)
    (h : wpList P ops Q rest (a.put o.dst (.agg cs)) w) : wpList P ops Q (o :: rest) a w :=
  BigFrame.wpList_want hw fun _ hK => wp_load_row ty x ho g hx t cs fr d hg hu hd hi (hK _ _ h)

theorem made23 (w : World) {l : List Int} (hl : l.length = 17) : PB ((w.alloc (.cells #[Value.int IntKind.i64 0, Value.int IntKind.i64 0, Value.int IntKind.i64 0, Value.int IntKind.i64 0, Value.int IntKind.i64 0, Value.int IntKind.i64 0, Value.int IntKind.i64 0, Value.int IntKind.i64 0, Value.int IntKind.i64 0, Value.int IntKind.i64 0, Value.int IntKind.i64 0, Value.int IntKind.i64 0, Value.int IntKind.i64 0, Value.int IntKind.i64 0, Value.int IntKind.i64 0, Value.int IntKind.i64 0, Value.int IntKind.i64 0] 32)).setRow w.heap.size (prC l)) w.heap.size 32 l ∧ Below w.heap.size w ((w.alloc (.cells #[Value.int IntKind.i64 0, Value.int IntKind.i64 0, Value.int IntKind.i64 0, Value.int IntKind.i64 0, Value.int IntKind.i64 0, Value.int IntKind.i64 0, Value.int IntKind.i64 0, Value.int IntKind.i64 0, Value.int IntKind.i64 0, Value.int IntKind.i64 0, Value.int IntKind.i64 0, Value.int IntKind.i64 0, Value.int IntKind.i64 0, Value.int IntKind.i64 0, Value.int IntKind.i64 0, Value.int IntKind.i64 0, Value.int IntKind.i64 0] 32)).setRow w.heap.size (prC l)) :=
  ⟨⟨hl, setRow_same _ (heap_new w _) _⟩, below_setRow ((Below.refl _ w).alloc (Nat.le_refl _) _) (Nat.le_refl _) _⟩

theorem PB.zero {w : World} {B : Nat} (h : PB w B 32 zeroL) : w.heap[B]? = some (.cells #[Value.int IntKind.i64 0, Value.int IntKind.i64 0, Value.int IntKind.i64 0, Value.int IntKind.i64 0, Value.int IntKind.i64 0, Value.int IntKind.i64 0, Value.int IntKind.i64 0, Value.int IntKind.i64 0, Value.int IntKind.i64 0, Value.int IntKind.i64 0, Value.int IntKind.i64 0, Value.int IntKind.i64 0, Value.int IntKind.i64 0, Value.int IntKind.i64 0, Value.int IntKind.i64 0, Value.int IntKind.i64 0, Value.int IntKind.i64 0] 32 (0, 0)) := h.row

end Go.Proofs.Ytifkelpgpdgenab
