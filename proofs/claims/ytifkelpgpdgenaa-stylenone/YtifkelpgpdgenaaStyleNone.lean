/-
  What is proved here: StyleNone answers true at every input, with no condition: a sheet that is nil, or that nobody made, answers ErrNil, and tells nothing.
-/
import Derived.Test.YtifkelpgpdgenaaAwakeB
import Derived.ChangeOld
import Derived.Below
import Derived.Deep.Slices
import Derived.ProofKit
import Derived.OpenShut
namespace Go.Proofs.Ytifkelpgpdgenaa.styleNone
open Go.ChangeShapes Go.WideShapes Go.ChangeAt Go.RowKit Go.Shelf

theorem own : ownKnob Try.prog.godebug = none := by kernel_rfl
theorem laidOut : laidOutB Try.prog = true := by kernel_rfl

/-- A sheet that is nil, or that nobody made. -/
def NotMade (p : Option Addr) (w : World) : Prop := p = none ∨ ∃ z, p = some ⟨z, 0, none⟩ ∧ w.heap[z]? = some (.cells #[.pointer none, .map none] 60 (0, 0))
theorem NotMade.below {p : Option Addr} {w w' : World} (h : NotMade p w) (hb : Below w.heap.size w w') : NotMade p w' := by
  rcases h with h | ⟨z, h1, h2⟩
  · exact .inl h
  · exact .inr ⟨z, h1, (hb.block z (Array.getElem?_eq_some_iff.1 h2).1).trans h2⟩
theorem made_no (p : Option Addr) (w : World) (h : NotMade p w) : Calls Try.prog 37 #[.pointer p] w fun e w' => e = .returned (.bool false) ∧ w' = w := by
  rcases h with rfl | ⟨z, rfl, h2⟩
  · exact made_nil w
  · exact made_zero z w (by rw [Lib.cell_of_heap h2]; rfl)

set_option maxHeartbeats 1000000 in
theorem define_nil (p : Option Addr) (s u : Str) (v : Value) (w : World) (h : NotMade p w) : Calls Try.prog 23 #[.pointer p, .string s, .string u, v] w fun e w' => e = .returned (.int .i64 1) ∧ w' = w := by
  have hm := made_no p w h
  clear h
  go_enter Try.func23, Try.ntmps23
  go_wp2_with (go_at_call 37; refine hm.mono ?_; rintro e w' ⟨rfl, hww⟩; subst w')
  go_ret
  exact ⟨rfl, rfl⟩
set_option maxHeartbeats 1000000 in
theorem remove_nil (p : Option Addr) (s : Str) (w : World) (h : NotMade p w) : Calls Try.prog 25 #[.pointer p, .string s] w fun e w' => e = .returned (.int .i64 1) ∧ w' = w := by
  have hm := made_no p w h
  clear h
  go_enter Try.func25, Try.ntmps25
  go_wp2_with (go_at_call 37; refine hm.mono ?_; rintro e w' ⟨rfl, hww⟩; subst w')
  go_ret
  exact ⟨rfl, rfl⟩
set_option maxHeartbeats 1000000 in
theorem parent_nil (p : Option Addr) (s : Str) (w : World) (h : NotMade p w) : Calls Try.prog 29 #[.pointer p, .string s] w fun e w' => e = .returned (.tuple #[.string e0, .int .i64 1]) ∧ w' = w := by
  have hm := made_no p w h
  clear h
  go_enter Try.func29, Try.ntmps29
  go_wp2_with (go_at_call 37; refine hm.mono ?_; rintro e w' ⟨rfl, hww⟩; subst w')
  go_ret2
  exact ⟨rfl, rfl⟩
set_option maxHeartbeats 1000000 in
theorem names_nil (p : Option Addr) (w : World) (h : NotMade p w) : Calls Try.prog 30 #[.pointer p] w fun e w' => e = .returned (.slice none 0 0) ∧ w' = w := by
  have hm := made_no p w h
  clear h
  go_enter Try.func30, Try.ntmps30
  go_wp2_with (go_at_call 37; refine hm.mono ?_; rintro e w' ⟨rfl, hww⟩; subst w')
  go_ret
  exact ⟨rfl, rfl⟩
set_option maxHeartbeats 1000000 in
theorem clone_nil (p : Option Addr) (w : World) (h : NotMade p w) : Calls Try.prog 21 #[.pointer p] w fun e w' => e = .returned (.pointer none) ∧ w' = w := by
  have hm := made_no p w h
  clear h
  go_enter Try.func21, Try.ntmps21
  go_wp2_with (go_at_call 37; refine hm.mono ?_; rintro e w' ⟨rfl, hww⟩; subst w')
  go_ret
  exact ⟨rfl, rfl⟩
set_option maxHeartbeats 1000000 in
theorem resolve_nil (p : Option Addr) (s : Str) (v : Value) (w : World) (h : NotMade p w) : Calls Try.prog 28 #[.pointer p, .string s, v] w fun e w' => e = .returned (.tuple #[.agg (prC zeroL), .int .i64 1]) ∧ Below w.heap.size w w' := by
  obtain ⟨hB, hR⟩ := room_made w
  generalize hw0 : w.alloc (.cells #[Value.int IntKind.i64 0, Value.int IntKind.i64 0, Value.int IntKind.i64 0, Value.int IntKind.i64 0, Value.int IntKind.i64 0, Value.int IntKind.i64 0, Value.int IntKind.i64 0, Value.int IntKind.i64 0, Value.int IntKind.i64 0, Value.int IntKind.i64 0, Value.int IntKind.i64 0, Value.int IntKind.i64 0, Value.int IntKind.i64 0, Value.int IntKind.i64 0, Value.int IntKind.i64 0, Value.int IntKind.i64 0, Value.int IntKind.i64 0] 23) = w0 at hB hR
  have hm := made_no p w0 (h.below hB)
  have hR2 := hR.setRow (l' := zeroL) rfl
  have hB2 : Hid _ := below_setRow hB (Nat.le_refl w.heap.size) (prC zeroL)
  clear h
  go_enter Try.func28, Try.ntmps28
  go_wp2_with fail
  try rw [hw0]
  refine hm.mono ?_
  rintro e w' ⟨rfl, hww⟩
  subst w'
  go_wp2_with (refine wpList_store_row rfl 23 _ _ rfl w.heap.size (prC zeroL) rfl rfl 23 _ hR.row (info23l rfl) rfl (prC_one _) ?_)
  refine bodyPost_ret (results_cell_row2 rfl _ _ w.heap.size 23 _ (0, 0) _ rfl hR2.row Try.underlying23 rfl (info23l rfl)) rfl ?_
  exact ⟨rfl, hB2.out⟩

def pk (z k : Nat) : Option Addr := if k = 0 then none else some ⟨z, 0, none⟩

set_option maxHeartbeats 4000000 in
set_option maxRecDepth 100000 in
theorem walk (s : Str) (w : World) :
    Calls Try.prog 5 #[.string s] w fun e w' => e = .returned (.bool true) ∧ Below w.heap.size w w' := by
  go_enter Try.func5, Try.ntmps5
  go_wp2_with fail
  obtain ⟨w2, hw2⟩ : ∃ w2, (w.alloc (.cells #[.pointer none, .map none] 60)).alloc (.cells #[.pointer none, .pointer (some ⟨w.heap.size, 0, none⟩)] 45) = w2 := ⟨_, rfl⟩
  have hs2 : w2.heap.size = w.heap.size + 2 := by rw [← hw2]; simp
  have hb2 : Below w.heap.size w w2 := by rw [← hw2]; exact ((Below.refl _ w).alloc (Nat.le_refl _) _).alloc (by simp) _
  have hz : w2.heap[w.heap.size]? = some (.cells #[.pointer none, .map none] 60) := by rw [← hw2]; exact heap_alloc2_old w _ _
  have hg : w2.heap[w.heap.size + 1]? = some (.cells #[.pointer none, .pointer (some ⟨w.heap.size, 0, none⟩)] 45) := by rw [← hw2]; exact heap_alloc2_new w _ _
  rw [hw2]
  clear hw2
  go_loopw [4] (fun i wr => ∃ k : Nat, k ≤ 2 ∧ i = .int .i64 k ∧ Below w2.heap.size w2 wr) (fun i _ => 2 - (intOf i).toNat)
  case atStart => exact ⟨0, by omega, rfl, Below.refl _ _⟩
  case round =>
    obtain ⟨k, hk, rfl, hbr⟩ := hrel
    by_cases hlt : k < 2
    · obtain ⟨p, hp⟩ : ∃ p, p = pk w.heap.size k := ⟨_, rfl⟩
      have hcell : wr.cell? ⟨w.heap.size + 1, k, none⟩ = some (.pointer p) := by
        rw [Lib.cell_of_heap ((hbr.block _ (by omega)).trans hg), hp]
        match k, hlt with
        | 0, _ => rfl
        | 1, _ => rfl
      have hN : NotMade p wr := by
        rw [hp]; unfold pk
        by_cases h0 : k = 0
        · rw [if_pos h0]; exact .inl rfl
        · rw [if_neg h0]; exact .inr ⟨_, rfl, (hbr.block _ (by omega)).trans hz⟩
      clear hp
      go_wp2_with fail
      refine (resolve_nil p s _ wr hN).mono ?_
      rintro e x1 ⟨rfl, q1⟩
      have B1 := hbr.trans (q1.mono hbr.size)
      have N1 := hN.below q1
      obtain ⟨Z3, c3⟩ := made23 x1 (l := zeroL) rfl
      have N2 := N1.below c3
      have B2 := B1.trans (c3.mono B1.size)
      obtain ⟨x2, hx2⟩ : ∃ x2, (x1.alloc (.cells #[Value.int IntKind.i64 0, Value.int IntKind.i64 0, Value.int IntKind.i64 0, Value.int IntKind.i64 0, Value.int IntKind.i64 0, Value.int IntKind.i64 0, Value.int IntKind.i64 0, Value.int IntKind.i64 0, Value.int IntKind.i64 0, Value.int IntKind.i64 0, Value.int IntKind.i64 0, Value.int IntKind.i64 0, Value.int IntKind.i64 0, Value.int IntKind.i64 0, Value.int IntKind.i64 0, Value.int IntKind.i64 0, Value.int IntKind.i64 0] 23)).setRow x1.heap.size (prC zeroL) = x2 := ⟨_, rfl⟩
      rw [hx2] at Z3 c3 B2 N2
      go_wp2_with (refine wpList_store_row rfl 23 _ _ rfl x1.heap.size (prC zeroL) rfl rfl 23 _ (heap_new x1 _) (info23l rfl) rfl (prC_one _) ?_; rw [hx2])
      refine (parent_nil p s _ N2).mono ?_
      rintro e w' ⟨rfl, hww⟩
      subst w'
      unfold e0
      go_wp2_with fail
      refine (define_nil p s s _ _ N2).mono ?_
      rintro e w' ⟨rfl, hww⟩
      subst w'
      go_wp2_with fail
      refine (remove_nil p s _ N2).mono ?_
      rintro e w' ⟨rfl, hww⟩
      subst w'
      clear hx2
      go_wp2_with (refine wpList_load_want 23 _ rfl (by kernel_rfl) x1.heap.size rfl 23 #[Value.int IntKind.i64 0, Value.int IntKind.i64 0, Value.int IntKind.i64 0, Value.int IntKind.i64 0, Value.int IntKind.i64 0, Value.int IntKind.i64 0, Value.int IntKind.i64 0, Value.int IntKind.i64 0, Value.int IntKind.i64 0, Value.int IntKind.i64 0, Value.int IntKind.i64 0, Value.int IntKind.i64 0, Value.int IntKind.i64 0, Value.int IntKind.i64 0, Value.int IntKind.i64 0, Value.int IntKind.i64 0, Value.int IntKind.i64 0] (0, 0) _ Z3.zero Try.underlying23 rfl (by kernel_rfl) ?_)
      refine (names_nil p _ N2).mono ?_
      rintro e w' ⟨rfl, hww⟩
      subst w'
      go_wp2_with fail
      refine (clone_nil p _ N2).mono ?_
      rintro e w' ⟨rfl, hww⟩
      subst w'
      go_wp2_with fail
      go_roundw
      case rel => exact ⟨k + 1, by omega, by simp, B2⟩
      case measure => simp [intOf]; omega
    · go_wp2_with fail
      refine (awake_any _).mono ?_
      rintro e w3 ⟨rfl, hb3⟩
      go_wp2_with fail
      go_ret
      have hbr' := hb2.trans (hbr.mono hb2.size)
      exact ⟨rfl, hbr'.trans (hb3.mono hbr'.size)⟩

set_option maxRecDepth 100000 in
theorem lifted (os : Os) (started : os.Started) (H : Type) (enc : TypeId × Value → H) :
    ReturnsInHanded {} Try.checked os 5 .any (Rows.styleNoneSpec.pre6 enc Try.prog Try.f5 Rows.styleNoneRow.domain false) (Rows.styleNoneSpec.post enc Try.prog Try.f5 false true false false) := by
  refine returnsInHanded_of_change (C := Try.checked) own started (by kernel_rfl) Try.func5
    (ChangeSpec.witness6 (enc := enc) (C := Try.checked) false ⟨#[], #[.string ⟨#[]⟩], []⟩ 8 (by kernel_rfl) (by kernel_rfl) (by kernel_rfl) (by kernel_rfl)) ?_
  intro W base args ds gs before hval0 hW hcnd _
  have hval : ∀ (j : Nat) t v, Try.f5.params[j]? = some t → args[j]? = some v → Value.okWide Try.prog W .any base t v := hval0
  have hW' := hW
  obtain ⟨p, q, hA0, hV, rfl, hfz, hnd⟩ := hW
  have hA : DataW.TrodAll enc Try.prog W 0 (fun _ => true) true Try.f5.params.toList args.toList ds p := hA0
  rw [Try.params5] at hA hval
  obtain ⟨v0, vs0, d0, ds0, p0, q0, hargs, rfl, rfl, h0, r0⟩ := trodAll_cons hA
  obtain ⟨rfl, rfl, rfl⟩ := trodAll_nil r0
  obtain rfl : args = #[v0] := by cases args; simp_all
  obtain ⟨rfl, rfl⟩ := trodVars_none hV
  have k0 := h0
  have lt0 : ∀ x ∈ p0, x.block < W.heap.size := by obtain ⟨m, hm⟩ := k0; exact DataW.trod_lt m _ _ _ hm
  obtain ⟨s, hs⟩ : ∃ s, v0 = .string s := okWide_string Try.underlying9 (hval 0 9 v0 rfl rfl)
  subst hs
  clear hA0 hval0
  refine (walk s W).mono fun e W' ⟨he, bel⟩ => ?_
  subst he
  exact ⟨_, rfl, _, _, _, [], _, [], hW', trodAll_mk1 (shut_bool Try.underlying4 _), (trodAll_cons_mk (Below.trod laidOut (by kernel_rfl) (of_decide_eq_true (by kernel_rfl)) k0 bel lt0) trodAll_mk0), rfl, bel.frame _, fun h => by cases h⟩

theorem over : Rows.styleNoneRow.holds Try.pinned (OpenSpec.ofChange Rows.styleNoneSpec) :=
  OpenClaim.holds_of_wide 5 Try.f5 rfl rfl rfl rfl rfl rfl rfl ⟨rfl, rfl, rfl, rfl, rfl⟩ rfl rfl rfl rfl rfl (by kernel_rfl) Try.func5 (by kernel_rfl)
    (of_decide_eq_true (by kernel_rfl)) (by unfold Func.isWrapper; first | (rw [if_pos (by decide +kernel)]; kernel_rfl) | (rw [if_neg (by decide +kernel)]; exact ⟨rfl, rfl⟩))
    (fun os started H enc _ => lifted os started H enc)

end Go.Proofs.Ytifkelpgpdgenaa.styleNone
namespace Go.Proofs.Ytifkelpgpdgenaa

theorem styleNone_holds : Rows.StyleNoneSaid := styleNone.over

end Go.Proofs.Ytifkelpgpdgenaa
