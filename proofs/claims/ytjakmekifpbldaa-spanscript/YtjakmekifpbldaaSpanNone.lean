/-
  What is proved here: SpanNone answers true at every input, with no condition: looks that are nil, or that nobody made, answer ErrNil, and tell nothing.
-/
import Derived.Test.YtjakmekifpbldaaWalkO
import Derived.Test.YtjakmekifpbldaaSpanChecks
import Derived.ChangeOld
import Derived.Below
import Derived.Deep.Slices
import Derived.ProofKit
import Derived.OpenShut
namespace Go.Proofs.Ytjakmekifpbldaa.spanNone
open Go.ChangeShapes Go.WideShapes Go.ChangeAt Go.RowKit

/-- The k-th of the two looks. -/
def pk (z k : Nat) : Option Addr := if k = 0 then none else some ⟨z, 0, none⟩

theorem own : ownKnob Try.prog.godebug = none := by kernel_rfl

theorem box_cells {w1 w2 : World} {B : Nat} {c : Ch} (h : w1.heap[B]? = some (.cells #[.int .i64 c.s, .int .i64 c.t, .int .i64 c.k] 23 (0, 0))) (hb : Below w1.heap.size w1 w2) :
    w2.cell? ⟨B, 0, none⟩ = some (.int .i64 c.s) ∧ w2.cell? ⟨B, 1, none⟩ = some (.int .i64 c.t) ∧ w2.cell? ⟨B, 2, none⟩ = some (.int .i64 c.k) := by
  have hx := (hb.block B (Array.getElem?_eq_some_iff.1 h).1).trans h
  refine ⟨?_, ?_, ?_⟩ <;> (rw [Lib.cell_of_heap hx]; rfl)

set_option maxHeartbeats 4000000 in
set_option maxRecDepth 100000 in
theorem walk (a0 : Int) (c : Ch) (w : World) :
    Calls Try.prog 5 #[.int .i64 a0, chV c] w fun e w' => e = .returned (.bool true) ∧ Below w.heap.size w w' := by
  unfold chV
  go_enter Try.func5, Try.ntmps5
  go_wp2_with fail
  obtain ⟨w2, hw2⟩ : ∃ w2, (((w.alloc (.cells #[.int .i64 c.s, .int .i64 c.t, .int .i64 c.k] 23)).alloc (.cells #[.pointer none, .slice none 0 0, .int .i64 0, .int .i64 0, .int .i64 0] 46)).alloc (.cells #[.pointer none, .pointer (some ⟨w.heap.size + 1, 0, none⟩)] 25)) = w2 := ⟨_, rfl⟩
  have hs2 : w2.heap.size = w.heap.size + 3 := by rw [← hw2]; simp
  have hb2 : Below w.heap.size w w2 := by rw [← hw2]; exact (((Below.refl _ w).alloc (Nat.le_refl _) _).alloc (by simp) _).alloc (by simp; omega) _
  have hg3 : w2.heap[w.heap.size]? = some (.cells #[.int .i64 c.s, .int .i64 c.t, .int .i64 c.k] 23) ∧ w2.heap[w.heap.size + 1]? = some (.cells #[.pointer none, .slice none 0 0, .int .i64 0, .int .i64 0, .int .i64 0] 46) ∧ w2.heap[w.heap.size + 2]? = some (.cells #[.pointer none, .pointer (some ⟨w.heap.size + 1, 0, none⟩)] 25) := by
    rw [← hw2]
    refine ⟨?_, ?_, ?_⟩ <;> (show (((w.heap.push _).push _).push _)[_]? = _; simp only [Array.getElem?_push, Array.size_push]; repeat (first | rw [if_pos trivial] | rw [if_pos (by omega)] | rw [if_neg (by omega)]))
  obtain ⟨hc, hz, hg⟩ := hg3
  rw [hw2]
  clear hw2
  go_loopw [6] (fun i wr => ∃ k : Nat, k ≤ 2 ∧ i = .int .i64 k ∧ Below w2.heap.size w2 wr) (fun i _ => 2 - (intOf i).toNat)
  case atStart => exact ⟨0, by omega, rfl, Below.refl _ _⟩
  case round =>
    obtain ⟨k, hk, rfl, hbr⟩ := hrel
    by_cases hlt : k < 2
    · obtain ⟨p, hp⟩ : ∃ p, p = pk (w.heap.size + 1) k := ⟨_, rfl⟩
      have hcell : wr.cell? ⟨w.heap.size + 2, k, none⟩ = some (.pointer p) := by
        rw [Lib.cell_of_heap ((hbr.block _ (by omega)).trans hg), hp]
        match k, hlt with
        | 0, _ => rfl
        | 1, _ => rfl
      have hN : NotMade p wr := by
        rw [hp]; unfold pk
        by_cases h0 : k = 0
        · rw [if_pos h0]; exact .inl rfl
        · rw [if_neg h0]; exact .inr ⟨_, rfl, (hbr.block _ (by omega)).trans hz⟩
      clear hp
      have hat := at_nil p a0 wr hN
      unfold chV at hat
      have hset : ∀ W, NotMade p W → Calls Try.prog 23 #[.pointer p, .int .i64 a0, .int .i64 a0, .agg #[.int .i64 c.s, .int .i64 c.t, .int .i64 c.k]] W fun e w' => e = .returned (.int .i64 1) ∧ Below W.heap.size W w' := fun W hW => set_nil p a0 a0 c W hW
      go_wp2_with fail
      refine hat.mono ?_
      rintro e x1 ⟨rfl, q1⟩
      have B1 := hbr.trans (q1.mono hbr.size)
      have hA := (Below.refl x1.heap.size x1).alloc (Nat.le_refl _) (Obj.cells #[.int .i64 0, .int .i64 0, .int .i64 0] 23)
      have N1 := (hN.below q1).below hA
      have BA := B1.trans (hA.mono B1.size)
      obtain ⟨y0, y1, y2⟩ := box_cells hc BA
      have hX : (x1.alloc (Obj.cells #[.int .i64 0, .int .i64 0, .int .i64 0] 23)).heap[x1.heap.size]? = some (.cells #[.int .i64 (⟨0, 0, 0⟩ : Ch).s, .int .i64 (⟨0, 0, 0⟩ : Ch).t, .int .i64 (⟨0, 0, 0⟩ : Ch).k] 23) := heap_new x1 _
      go_wp2_with fail
      refine (slice_nil p 0 0 _ N1).mono ?_
      rintro e w' ⟨rfl, hww⟩
      subst w'
      go_wp2_with fail
      refine (insert_nil p a0 a0 _ N1).mono ?_
      rintro e w' ⟨rfl, hww⟩
      subst w'
      go_wp2_with fail
      refine (delete_nil p a0 a0 _ N1).mono ?_
      rintro e w' ⟨rfl, hww⟩
      subst w'
      go_wp2_with fail
      refine (hset _ N1).mono ?_
      rintro e x3 ⟨rfl, q3⟩
      have N3 := N1.below q3
      have B3 := BA.trans (q3.mono BA.size)
      obtain ⟨z0, z1, z2⟩ : x3.cell? ⟨x1.heap.size, 0, none⟩ = some (.int .i64 0) ∧ x3.cell? ⟨x1.heap.size, 1, none⟩ = some (.int .i64 0) ∧ x3.cell? ⟨x1.heap.size, 2, none⟩ = some (.int .i64 0) := box_cells (c := ⟨0, 0, 0⟩) hX q3
      go_wp2_with fail
      refine (len_nil p _ N3).mono ?_
      rintro e w' ⟨rfl, hww⟩
      subst w'
      go_wp2_with fail
      refine (clone_nil p _ N3).mono ?_
      rintro e w' ⟨rfl, hww⟩
      subst w'
      go_wp2_with fail
      go_roundw
      case rel => exact ⟨k + 1, by omega, by simp, B3⟩
      case measure => simp [intOf]; omega
    · go_wp2_with fail
      refine (awake_any _).mono ?_
      rintro e w3 ⟨rfl, hb3⟩
      go_wp2_with fail
      go_ret
      have hbr' := hb2.trans (hbr.mono hb2.size)
      exact ⟨rfl, hbr'.trans (hb3.mono hbr'.size)⟩

/-- A look that is handed in. -/
theorem open_ch {H : Type} {enc : TypeId × Value → H} {W : World} {v : Value} {d : DataW H} {ps : List MemPlace} {base : Nat} (hok : Value.okWide Try.prog W .any base 23 v)
    (h : DataW.Trod enc Try.prog W 0 (fun _ => true) true 23 v d ps) : ∃ c : Ch, v = chV c := by
  obtain ⟨cs, rfl, hsz⟩ := okWide_struct Try.underlying23 hok
  obtain ⟨fuel, hf⟩ := h
  have c23 : Try.prog.cellsOf 23 = 3 := by kernel_rfl
  obtain ⟨c, hc⟩ := spanChecks.ch_at (cs := cs.toList) (by rw [c23] at hsz; simpa using hsz) hf
  exact ⟨c, by unfold chV; rw [← hc]⟩

set_option maxRecDepth 100000 in
theorem lifted (os : Os) (started : os.Started) (H : Type) (enc : TypeId × Value → H) :
    ReturnsInHanded {} Try.checked os 5 .any (Rows.spanNoneSpec.pre6 enc Try.prog Try.f5 Rows.spanNoneRow.domain false) (Rows.spanNoneSpec.post enc Try.prog Try.f5 false true false false) := by
  refine returnsInHanded_of_change (C := Try.checked) own started (by kernel_rfl) Try.func5
    (ChangeSpec.witness6 (enc := enc) (C := Try.checked) false ⟨#[], #[.int .i64 0, .agg #[.int .i64 0, .int .i64 0, .int .i64 0]], []⟩ 8 (by kernel_rfl) (by kernel_rfl) (by kernel_rfl) (by kernel_rfl)) ?_
  intro W base args ds gs before hval0 hW hcnd _
  have hval : ∀ (j : Nat) t v, Try.f5.params[j]? = some t → args[j]? = some v → Value.okWide Try.prog W .any base t v := hval0
  have hW' := hW
  obtain ⟨p, q, hA0, hV, rfl, hfz, hnd⟩ := hW
  have hA : DataW.TrodAll enc Try.prog W 0 (fun _ => true) true Try.f5.params.toList args.toList ds p := hA0
  rw [Try.params5] at hA hval
  obtain ⟨v0, vs0, d0, ds0, p0, q0, hargs, rfl, rfl, h0, r0⟩ := trodAll_cons hA
  obtain ⟨v1, vs1, d1, ds1, p1, q1, rfl, rfl, rfl, h1, r1⟩ := trodAll_cons r0
  obtain ⟨rfl, rfl, rfl⟩ := trodAll_nil r1
  obtain rfl : args = #[v0, v1] := by cases args; simp_all
  obtain ⟨rfl, rfl⟩ := trodVars_none hV
  obtain ⟨a0, rfl, rfl, rfl, w0⟩ := open_int Try.underlying3 (hval 0 3 v0 rfl rfl) h0
  have k1 := h1
  have lt1 : ∀ x ∈ p1, x.block < W.heap.size := by obtain ⟨m, hm⟩ := k1; exact DataW.trod_lt m _ _ _ hm
  obtain ⟨c, rfl⟩ := open_ch (hval 1 23 v1 rfl rfl) h1
  clear hA0 hval0
  refine (walk a0 c W).mono fun e W' ⟨he, bel⟩ => ?_
  subst he
  exact ⟨_, rfl, _, _, _, [], _, [], hW', trodAll_mk1 (shut_bool Try.underlying4 _), (trodAll_cons_mk (shut_int Try.underlying3 w0) (trodAll_cons_mk (Below.trod spanChecks.laidOut (by kernel_rfl) (of_decide_eq_true (by kernel_rfl)) k1 bel lt1) trodAll_mk0)), rfl, bel.frame _, fun h => by cases h⟩

theorem over : Rows.spanNoneRow.holds Try.pinned (OpenSpec.ofChange Rows.spanNoneSpec) :=
  OpenClaim.holds_of_wide 5 Try.f5 rfl rfl rfl rfl rfl rfl rfl ⟨rfl, rfl, rfl, rfl, rfl⟩ rfl rfl rfl rfl rfl (by kernel_rfl) Try.func5 (by kernel_rfl)
    (of_decide_eq_true (by kernel_rfl)) (by unfold Func.isWrapper; first | (rw [if_pos (by decide +kernel)]; kernel_rfl) | (rw [if_neg (by decide +kernel)]; exact ⟨rfl, rfl⟩))
    (fun os started H enc _ => lifted os started H enc)

end Go.Proofs.Ytjakmekifpbldaa.spanNone
namespace Go.Proofs.Ytjakmekifpbldaa

theorem spanNone_holds : Rows.SpanNoneSaid := spanNone.over

end Go.Proofs.Ytjakmekifpbldaa
