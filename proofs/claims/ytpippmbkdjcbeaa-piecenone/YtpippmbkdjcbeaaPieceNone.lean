/-
  What is proved here: PieceNone answers true at every input, with no condition: a text that is nil, or that nobody made, answers ErrNil, and tells nothing.
-/
import Derived.Test.YtpippmbkdjcbeaaWalkJ
import Derived.ProofKit
import Derived.OpenShut
namespace Go.Proofs.Ytpippmbkdjcbeaa.pieceNone
open Go.ChangeShapes Go.WideShapes Go.ChangeAt Go.RowKit Go.WideMaps Go.WideElems
open Go.ChangeMaps (open_string shut_string)

theorem own : ownKnob Try.prog.godebug = none := by kernel_rfl

/-- The k-th of the two texts. -/
def pk (z k : Nat) : Option Addr := if k = 0 then none else some ⟨z, 0, none⟩

set_option maxHeartbeats 1000000 in
set_option maxRecDepth 100000 in
theorem walk (a0 : Int) (s1 : ByteArray) (w : World) :
    Calls Try.prog 3 #[.int .i64 a0, .string s1] w fun e w' => e = .returned (.bool true) ∧ Below w.heap.size w w' := by
  go_enter Try.func3, Try.ntmps3
  go_wp2_with fail
  obtain ⟨w2, hw2⟩ : ∃ w2, (w.alloc (.cells #[.pointer none, .slice none 0 0] 25)).alloc (.cells #[.pointer none, .pointer (some ⟨w.heap.size, 0, none⟩)] 22) = w2 := ⟨_, rfl⟩
  have hs2 : w2.heap.size = w.heap.size + 2 := by rw [← hw2]; simp
  have hb2 : Below w.heap.size w w2 := by rw [← hw2]; exact ((Below.refl _ w).alloc (Nat.le_refl _) _).alloc (by simp) _
  have hz : w2.heap[w.heap.size]? = some (.cells #[.pointer none, .slice none 0 0] 25) := by rw [← hw2]; exact (Below.heap_alloc _ _ _ (by simp)).trans (World.alloc_heap_new w _)
  have hg : w2.heap[w.heap.size + 1]? = some (.cells #[.pointer none, .pointer (some ⟨w.heap.size, 0, none⟩)] 22) := by
    rw [← hw2]; have := World.alloc_heap_new (w.alloc (.cells #[.pointer none, .slice none 0 0] 25)) (.cells #[.pointer none, .pointer (some ⟨w.heap.size, 0, none⟩)] 22); rwa [World.size_alloc] at this
  rw [hw2]
  go_loopw [6] (fun i wr => ∃ k : Nat, k ≤ 2 ∧ i = .int .i64 k ∧ Below w2.heap.size w2 wr) (fun i _ => 2 - (intOf i).toNat)
  case atStart => exact ⟨0, by omega, rfl, Below.refl _ _⟩
  case round =>
    obtain ⟨k, hk, rfl, hbr⟩ := hrel
    by_cases hlt : k < 2
    · obtain ⟨p, hp⟩ : ∃ p, p = pk w.heap.size k := ⟨_, rfl⟩
      have hcell : wr.cell? ⟨w.heap.size + 1, k, none⟩ = some (.pointer p) := by
        rw [Lib.cell_of_heap ((hbr.block _ (by omega)).trans hg), hp]
        match k, hlt with
        | 0, _ => rfl
        | 1, _ => rfl
      have hN : NotMade p wr := by
        rw [hp]; unfold pk
        by_cases h0 : k = 0
        · rw [if_pos h0]; exact .inl rfl
        · rw [if_neg h0]; exact .inr ⟨_, rfl, (hbr.block _ (by omega)).trans hz⟩
      clear hp
      go_wp2_with fail
      refine (slice_none p 0 0 _ hN).mono ?_
      rintro e w' ⟨rfl, hww⟩
      subst w'
      go_wp2_with fail
      refine (byte_nil p a0 _ hN).mono ?_
      rintro e x1 ⟨rfl, q1⟩
      have N1 := hN.below q1
      have B1 := hbr.trans (q1.mono hbr.size)
      go_wp2_with fail
      refine (insert_nil p a0 s1 _ N1).mono ?_
      rintro e w' ⟨rfl, hww⟩
      subst w'
      go_wp2_with fail
      refine (delete_nil p a0 a0 _ N1).mono ?_
      rintro e w' ⟨rfl, hww⟩
      subst w'
      go_wp2_with fail
      refine (find_nil p 32 a0 _ N1).mono ?_
      rintro e x2 ⟨rfl, q2⟩
      have N2 := N1.below q2
      have B2 := B1.trans (q2.mono B1.size)
      go_wp2_with fail
      refine (count_none p 32 _ N2).mono ?_
      rintro e x3 ⟨rfl, q3⟩
      have N3 := N2.below q3
      have B3 := B2.trans (q3.mono B2.size)
      go_wp2_with fail
      refine (len_none p _ N3).mono ?_
      rintro e x4 ⟨rfl, q4⟩
      have N4 := N3.below q4
      have B4 := B3.trans (q4.mono B3.size)
      go_wp2_with fail
      refine (pieces_none p _ N4).mono ?_
      rintro e x5 ⟨rfl, q5⟩
      have N5 := N4.below q5
      have B5 := B4.trans (q5.mono B4.size)
      go_wp2_with fail
      refine (clone_nil p _ N5).mono ?_
      rintro e w' ⟨rfl, hww⟩
      subst w'
      go_wp2_with fail
      go_roundw
      case rel => exact ⟨k + 1, by omega, by simp, B5⟩
      case measure => simp [intOf]; omega
    · go_wp2_with fail
      refine (awake_any _).mono ?_
      rintro e w3 ⟨rfl, hb3⟩
      go_wp2_with fail
      go_ret
      have hbr' := hb2.trans (hbr.mono (by omega))
      exact ⟨rfl, hbr'.trans (hb3.mono hbr'.size)⟩

set_option maxRecDepth 100000 in
theorem lifted (os : Os) (started : os.Started) (H : Type) (enc : TypeId × Value → H) :
    ReturnsInHanded {} Try.checked os 3 .any (Rows.pieceNoneSpec.pre6 enc Try.prog Try.f3 Rows.pieceNoneRow.domain false) (Rows.pieceNoneSpec.post enc Try.prog Try.f3 false true false false) := by
  refine returnsInHanded_of_change (C := Try.checked) own started (by kernel_rfl) Try.func3
    (ChangeSpec.witness6 (enc := enc) (C := Try.checked) false ⟨#[], #[.int .i64 0, .string ByteArray.empty], []⟩ 8 (by kernel_rfl) (by kernel_rfl) (by kernel_rfl) (by kernel_rfl)) ?_
  intro W base args ds gs before hval0 hW hcnd _
  have hval : ∀ (j : Nat) t v, Try.f3.params[j]? = some t → args[j]? = some v → Value.okWide Try.prog W .any base t v := hval0
  have hW' := hW
  obtain ⟨p, q, hA0, hV, rfl, hfz, hnd⟩ := hW
  have hA : DataW.TrodAll enc Try.prog W 0 (fun _ => true) true Try.f3.params.toList args.toList ds p := hA0
  rw [Try.params3] at hA hval
  obtain ⟨v0, vs0, d0, ds0, p0, q0, hargs, rfl, rfl, h0, r0⟩ := trodAll_cons hA
  obtain ⟨v1, vs1, d1, ds1, p1, q1, rfl, rfl, rfl, h1, r1⟩ := trodAll_cons r0
  obtain ⟨rfl, rfl, rfl⟩ := trodAll_nil r1
  obtain rfl : args = #[v0, v1] := by cases args; simp_all
  obtain ⟨rfl, rfl⟩ := trodVars_none hV
  obtain ⟨a0, rfl, rfl, rfl, w0⟩ := open_int Try.underlying3 (hval 0 3 v0 rfl rfl) h0
  obtain ⟨a1, rfl, rfl, rfl, w1⟩ := open_string Try.underlying9 (hval 1 9 v1 rfl rfl) h1
  clear hA0 hval0
  simp only [List.append_nil] at hW'
  refine (walk a0 a1 W).mono fun e W' ⟨he, hg⟩ => ?_
  subst he
  exact ⟨_, rfl, _, _, _, [], [], [], hW', trodAll_mk1 (shut_bool Try.underlying4 _), (trodAll_cons_mk (shut_int Try.underlying3 w0) (trodAll_cons_mk (shut_string Try.underlying9 w1) trodAll_mk0)), rfl, hg.frame _, fun h => by cases h⟩

theorem over : Rows.pieceNoneRow.holds Try.pinned (OpenSpec.ofChange Rows.pieceNoneSpec) :=
  OpenClaim.holds_of_wide 3 Try.f3 rfl rfl rfl rfl rfl rfl rfl ⟨rfl, rfl, rfl, rfl, rfl⟩ rfl rfl rfl rfl rfl (by kernel_rfl) Try.func3 (by kernel_rfl)
    (of_decide_eq_true (by kernel_rfl)) (by unfold Func.isWrapper; first | (rw [if_pos (by decide +kernel)]; kernel_rfl) | (rw [if_neg (by decide +kernel)]; exact ⟨rfl, rfl⟩))
    (fun os started H enc _ => lifted os started H enc)

end Go.Proofs.Ytpippmbkdjcbeaa.pieceNone
namespace Go.Proofs.Ytpippmbkdjcbeaa

theorem pieceNone_holds : Rows.PieceNoneSaid := pieceNone.over

end Go.Proofs.Ytpippmbkdjcbeaa
