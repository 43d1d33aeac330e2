/-
  What is proved here: ClusterMoves answers true at every input, with no condition: where clusters begin, and which boundaries are next to a place, of any text and place, or the error, is what the document says.
-/
import Derived.Test.YtjmcfdmonckhmaaRefC
import Derived.ProofKit
import Derived.OpenShut
namespace Go.Proofs.Ytjmcfdmonckhmaa.clusterMoves
open Go.ChangeShapes Go.WideShapes Go.ChangeAt Go.RowKit Go.WideMaps Go.WideElems
open Go.ChangeMaps (open_string shut_string)

theorem own : ownKnob Try.prog.godebug = none := by kernel_rfl

set_option maxRecDepth 100000 in
set_option maxHeartbeats 4000000 in
theorem walk (t : ByteArray) (hs : t.size ≤ maxLen) (a : Int) (w : World) : Calls Try.prog 4 #[.string t, .int .i64 a] w fun e w' => e = .returned (.bool true) ∧ Below w.heap.size w w' := by
  have hs' : (t.size : Int) ≤ 9223372036854775807 := by unfold maxLen at hs; omega
  obtain ⟨x1, e1, h1, h2⟩ := start_both t hs' a
  obtain ⟨x2, e2, h3, h4⟩ := next_both t a
  obtain ⟨x3, e3, h5, h6⟩ := prev_both t hs' a
  have h7 := bound_any t a
  have h8 := rbound_any t a
  generalize bndI t a = r at h7 h8
  have g1 : (x1 == x1) = true := by simp
  have g2 : (e1 == e1) = true := by simp
  have g3 : (x2 == x2) = true := by simp
  have g4 : (e2 == e2) = true := by simp
  have g5 : (x3 == x3) = true := by simp
  have g6 : (e3 == e3) = true := by simp
  have g7 : (r == r) = true := by simp
  go_enter Try.func4, Try.ntmps4
  have C0 := Below.refl w.heap.size w
  go_wp2_with fail
  refine (h1 _).mono ?_
  rintro _ w1 ⟨rfl, B1⟩
  have C1 := C0.trans (B1.mono C0.size)
  clear B1 C0
  go_wp2_with fail
  refine (h2 _).mono ?_
  rintro _ w2 ⟨rfl, B2⟩
  have C2 := C1.trans (B2.mono C1.size)
  clear B2 C1
  go_wp2_with fail
  refine (h3 _).mono ?_
  rintro _ w3 ⟨rfl, B3⟩
  have C3 := C2.trans (B3.mono C2.size)
  clear B3 C2
  go_wp2_with fail
  refine (h4 _).mono ?_
  rintro _ w4 ⟨rfl, B4⟩
  have C4 := C3.trans (B4.mono C3.size)
  clear B4 C3
  go_wp2_with fail
  refine (h5 _).mono ?_
  rintro _ w5 ⟨rfl, B5⟩
  have C5 := C4.trans (B5.mono C4.size)
  clear B5 C4
  go_wp2_with fail
  refine (h6 _).mono ?_
  rintro _ w6 ⟨rfl, B6⟩
  have C6 := C5.trans (B6.mono C5.size)
  clear B6 C5
  go_wp2_with fail
  refine (h7 _).mono ?_
  rintro _ w7 ⟨rfl, B7⟩
  have C7 := C6.trans (B7.mono C6.size)
  clear B7 C6
  go_wp2_with fail
  refine (h8 _).mono ?_
  rintro _ w8 ⟨rfl, B8⟩
  have C8 := C7.trans (B8.mono C7.size)
  clear B8 C7
  go_wp2_with fail
  refine (awake_any _).mono ?_
  rintro _ w9 ⟨rfl, B9⟩
  have C9 := C8.trans (B9.mono C8.size)
  clear B9 C8
  go_wp2_with fail
  go_ret
  exact ⟨rfl, C9⟩

set_option maxRecDepth 100000 in
theorem lifted (os : Os) (started : os.Started) (H : Type) (enc : TypeId × Value → H) :
    ReturnsInHanded {} Try.checked os 4 .any (Rows.clusterMovesSpec.pre6 enc Try.prog Try.f4 Rows.clusterMovesRow.domain false) (Rows.clusterMovesSpec.post enc Try.prog Try.f4 false true false false) := by
  refine returnsInHanded_of_change (C := Try.checked) own started (by kernel_rfl) Try.func4
    (ChangeSpec.witness6 (enc := enc) (C := Try.checked) false ⟨#[], #[.string ByteArray.empty, .int .i64 0], []⟩ 8 (by kernel_rfl) (by kernel_rfl) (by kernel_rfl) (by kernel_rfl)) ?_
  intro W base args ds gs before hval0 hW hcnd _
  have hval : ∀ (j : Nat) t v, Try.f4.params[j]? = some t → args[j]? = some v → Value.okWide Try.prog W .any base t v := hval0
  have hW' := hW
  obtain ⟨p, q, hA0, hV, rfl, hfz, hnd⟩ := hW
  have hA : DataW.TrodAll enc Try.prog W 0 (fun _ => true) true Try.f4.params.toList args.toList ds p := hA0
  rw [Try.params4] at hA hval
  obtain ⟨v0, vs0, d0, ds0, p0, q0, hargs, rfl, rfl, h0, r0⟩ := trodAll_cons hA
  obtain ⟨v1, vs1, d1, ds1, p1, q1, rfl, rfl, rfl, h1, r1⟩ := trodAll_cons r0
  obtain ⟨rfl, rfl, rfl⟩ := trodAll_nil r1
  obtain rfl : args = #[v0, v1] := by cases args; simp_all
  obtain ⟨rfl, rfl⟩ := trodVars_none hV
  obtain ⟨a0, rfl, rfl, rfl, w0⟩ := open_string Try.underlying9 (hval 0 9 v0 rfl rfl) h0
  obtain ⟨a1, rfl, rfl, rfl, w1⟩ := open_int Try.underlying3 (hval 1 3 v1 rfl rfl) h1
  clear hA0 hval0
  simp only [List.append_nil] at hW'
  refine (walk a0 w0 a1 W).mono fun e W' ⟨he, hg⟩ => ?_
  subst he
  exact ⟨_, rfl, _, _, _, [], [], [], hW', trodAll_mk1 (shut_bool Try.underlying4 _), (trodAll_cons_mk (shut_string Try.underlying9 w0) (trodAll_cons_mk (shut_int Try.underlying3 w1) trodAll_mk0)), rfl, hg.frame _, fun h => by cases h⟩

theorem over : Rows.clusterMovesRow.holds Try.pinned (OpenSpec.ofChange Rows.clusterMovesSpec) :=
  OpenClaim.holds_of_wide 4 Try.f4 rfl rfl rfl rfl rfl rfl rfl ⟨rfl, rfl, rfl, rfl, rfl⟩ rfl rfl rfl rfl rfl (by kernel_rfl) Try.func4 (by kernel_rfl)
    (of_decide_eq_true (by kernel_rfl)) (by unfold Func.isWrapper; first | (rw [if_pos (by decide +kernel)]; kernel_rfl) | (rw [if_neg (by decide +kernel)]; exact ⟨rfl, rfl⟩))
    (fun os started H enc _ => lifted os started H enc)

end Go.Proofs.Ytjmcfdmonckhmaa.clusterMoves
namespace Go.Proofs.Ytjmcfdmonckhmaa

theorem clusterMoves_holds : Rows.ClusterMovesSaid := clusterMoves.over

end Go.Proofs.Ytjmcfdmonckhmaa
