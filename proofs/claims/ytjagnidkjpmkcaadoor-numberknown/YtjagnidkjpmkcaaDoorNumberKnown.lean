/-
  What is proved here: NumberKnown answers true: the chapter's examples are answered as it says. Its conditions: the listed tables lie as the program's own text lays them.
-/
import Derived.Test.YtjagnidkjpmkcaaDoorAwake
import Derived.Test.YtjagnidkjpmkcaaDoorCounts
import Derived.Test.YtjagnidkjpmkcaaDoorOpen
namespace Go.Proofs.YtjagnidkjpmkcaaDoor.numberKnown
open Go.ChangeShapes Go.WideShapes Go.ChangeAt Go.RowKit

theorem let_26 : lettersN 26 = [122] := by rw [lettersN_pos (by omega)]; show lettersN 0 ++ _ = _; rw [lettersN_zero]; rfl
theorem let_27 : lettersN 27 = [97, 97] := by rw [lettersN_pos (by omega)]; show lettersN 1 ++ _ = _; rw [let_1]; rfl
theorem let_702 : lettersN 702 = [122, 122] := by rw [lettersN_pos (by omega)]; show lettersN 26 ++ _ = _; rw [let_26]; rfl
theorem let_703 : lettersN 703 = [97, 97, 97] := by rw [lettersN_pos (by omega)]; show lettersN 27 ++ _ = _; rw [let_27]; rfl
theorem dec_12 : Lib.decDigits 12 = [49, 50] := by rw [Lib.decDigits, dif_neg (by omega)]; show Lib.decDigits 1 ++ _ = _; rw [dec_one 1 (by omega)]; rfl

def K8 : List (Nat × Nat × List UInt8) := [(0, 12, [49, 50, 46]), (1, 1, [97, 41]), (1, 27, [97, 97, 41]), (1, 702, [122, 122, 41]), (2, 14, [120, 105, 118, 46]), (3, 9, [45]), (2, 3999, [109, 109, 109, 99, 109, 120, 99, 105, 120, 46]), (1, 703, [97, 97, 97, 41])]
def K8C : Array Value := (K8.flatMap fun x => [Value.int .i64 x.1, Value.int .i64 x.2.1, Value.string ⟨x.2.2.toArray⟩]).toArray

theorem K8_bd (i : Nat) (h : i < 8) : (K8[i]'h).1 ≤ 3 ∧ 1 ≤ (K8[i]'h).2.1 ∧ (K8[i]'h).2.1 ≤ 3999 := by
  have : ∀ j : Fin 8, (K8[j.val]'j.2).1 ≤ 3 ∧ 1 ≤ (K8[j.val]'j.2).2.1 ∧ (K8[j.val]'j.2).2.1 ≤ 3999 := by decide
  exact this ⟨i, h⟩
theorem K8_ok (i : Nat) (h : i < 8) : K8C[i * 3]? = some (.int .i64 (K8[i]'h).1) ∧ K8C[i * 3 + 1]? = some (.int .i64 (K8[i]'h).2.1) ∧ K8C[i * 3 + 2]? = some (.string ⟨(K8[i]'h).2.2.toArray⟩) ∧ labelN (K8[i]'h).1 (K8[i]'h).2.1 = (K8[i]'h).2.2 := by
  match i, h with
  | 0, _ => exact ⟨rfl, rfl, rfl, by show labelN 0 12 = _; unfold labelN; rw [if_pos rfl, dec_12]; rfl⟩
  | 1, _ => exact ⟨rfl, rfl, rfl, lab11⟩
  | 2, _ => exact ⟨rfl, rfl, rfl, by show labelN 1 27 = _; unfold labelN; rw [if_neg (by omega), if_pos rfl, let_27]; rfl⟩
  | 3, _ => exact ⟨rfl, rfl, rfl, by show labelN 1 702 = _; unfold labelN; rw [if_neg (by omega), if_pos rfl, let_702]; rfl⟩
  | 4, _ => exact ⟨rfl, rfl, rfl, lab214⟩
  | 5, _ => exact ⟨rfl, rfl, rfl, rfl⟩
  | 6, _ => exact ⟨rfl, rfl, rfl, by show labelN 2 3999 = _; unfold labelN; rw [if_neg (by omega), if_neg (by omega), if_pos rfl]; rfl⟩
  | 7, _ => exact ⟨rfl, rfl, rfl, by show labelN 1 703 = _; unfold labelN; rw [if_neg (by omega), if_pos rfl, let_703]; rfl⟩

def E3 : List En := [(1, 1), (2, 0), (1, 0)]
def L3 : List (List UInt8) := [[97, 41], [49, 46], [49, 46]]
theorem E3_labs : labs E3 = L3 := by
  have : labs E3 = [labelN 1 1, labelN 0 1, labelN 0 1] := by rfl
  rw [this, lab11, lab01]; rfl
theorem E6_four : four E6 0 = [2, 1, 0, 0] := by rfl

theorem en3 (w : World) : EnAt (w.alloc (.cells #[.int .i64 1, .int .i64 1, .int .i64 2, .int .i64 0, .int .i64 1, .int .i64 0] 37)) (.slice (some ⟨w.heap.size, 0, none⟩) 3 3) E3 := by
  refine ⟨⟨_, _, rfl, .inr ⟨w.heap.size, 0, rfl, by simp, fun i hi => ?_⟩⟩, by decide⟩
  have hi6 : i < 3 := hi
  rw [Lib.cell_of_heap (heap_new w _), Lib.cell_of_heap (heap_new w _), Nat.zero_add]
  match i, hi6 with
  | 0, _ => exact ⟨rfl, rfl⟩
  | 1, _ => exact ⟨rfl, rfl⟩
  | 2, _ => exact ⟨rfl, rfl⟩
theorem en1 (w : World) : EnAt (w.alloc (.cells #[.int .i64 9, .int .i64 0] 37)) (.slice (some ⟨w.heap.size, 0, none⟩) 1 1) [(9, 0)] := by
  refine ⟨⟨_, _, rfl, .inr ⟨w.heap.size, 0, rfl, by simp, fun i hi => ?_⟩⟩, by decide⟩
  have hi6 : i < 1 := hi
  rw [Lib.cell_of_heap (heap_new w _), Lib.cell_of_heap (heap_new w _), Nat.zero_add]
  match i, hi6 with
  | 0, _ => exact ⟨rfl, rfl⟩
theorem in_new (w : World) (L : List Int) (hl : L.length ≤ 1000) : InAt (w.alloc (.cells (L.map (Value.int .i64)).toArray 3)) (.slice (some ⟨w.heap.size, 0, none⟩) L.length L.length) L := by
  refine ⟨⟨_, _, rfl, .inr ⟨w.heap.size, 0, rfl, by simp, fun i hi => ?_⟩⟩, by omega⟩
  rw [Lib.cell_of_heap (heap_new w _), Nat.zero_add]
  simp [hi]

set_option maxHeartbeats 4000000 in
set_option maxRecDepth 100000 in
theorem walk (w : World) (ht : Tab w) :
    Calls Tryd.prog 8 #[] w fun e w' => e = .returned (.bool true) ∧ Below w.heap.size w w' := by
  go_enter Tryd.func8, Tryd.ntmps8
  go_wp2_with fail
  change Code.wp _ _ _ _ (w.alloc (.cells K8C 48))
  obtain ⟨w1, hw1⟩ : ∃ w1, w.alloc (.cells K8C 48) = w1 := ⟨_, rfl⟩
  have hK : w1.heap[w.heap.size]? = some (.cells K8C 48 (0, 0)) := by rw [← hw1]; exact heap_new w _
  have hb1 : Below w.heap.size w w1 := by rw [← hw1]; exact (Below.refl _ w).alloc (Nat.le_refl _) _
  have hs1 : w1.heap.size = w.heap.size + 1 := by rw [← hw1]; simp
  rw [hw1]
  clear hw1
  go_loopw [27] (fun i wr => ∃ k : Nat, k ≤ 8 ∧ i = .int .i64 k ∧ Below w1.heap.size w1 wr) (fun i _ => 8 - (RowKit.intOf i).toNat)
  case atStart => exact ⟨0, by omega, rfl, Below.refl _ _⟩
  case round =>
    obtain ⟨k, hk, rfl, hb⟩ := hrel
    have hwr : Below w.heap.size w wr := hb1.trans (hb.mono (by omega))
    by_cases hlt : k < 8
    · obtain ⟨c0, c1, c2, c3⟩ := K8_ok k hlt
      obtain ⟨c4, c5, c6⟩ := K8_bd k hlt
      have hKr : wr.heap[w.heap.size]? = some (.cells K8C 48 (0, 0)) := (hb.block _ (by omega)).trans hK
      have d0 : wr.cell? ⟨w.heap.size, k * 3, none⟩ = some (.int .i64 (K8[k]'hlt).1) := by rw [Lib.cell_of_heap hKr, c0]
      have d1 : wr.cell? ⟨w.heap.size, k * 3 + 1, none⟩ = some (.int .i64 (K8[k]'hlt).2.1) := by rw [Lib.cell_of_heap hKr, c1]
      have d2 : wr.cell? ⟨w.heap.size, k * 3 + 2, none⟩ = some (.string ⟨(K8[k]'hlt).2.2.toArray⟩) := by rw [Lib.cell_of_heap hKr, c2]
      have hL : ∀ W, Tab W → _ := Label_yes (K8[k]'hlt).1 (K8[k]'hlt).2.1 c4 c5 c6
      rw [c3] at hL
      clear c0 c1 c2 c3 c4 c5 c6 hKr
      generalize (K8[k]'hlt).1 = lv at *
      generalize (K8[k]'hlt).2.1 = n at *
      generalize (⟨(K8[k]'hlt).2.2.toArray⟩ : ByteArray) = s at *
      have hba := hwr.alloc hwr.size (.cells #[.int .i64 lv, .int .i64 n, .string s] 48)
      have hbb := hb.alloc hb.size (.cells #[.int .i64 lv, .int .i64 n, .string s] 48)
      have hX := heap_new wr (.cells #[.int .i64 lv, .int .i64 n, .string s] 48)
      have hXlt : wr.heap.size < (wr.alloc (.cells #[.int .i64 lv, .int .i64 n, .string s] 48)).heap.size := by simp
      have hkp : ∀ w', Below (wr.alloc (.cells #[.int .i64 lv, .int .i64 n, .string s] 48)).heap.size (wr.alloc (.cells #[.int .i64 lv, .int .i64 n, .string s] 48)) w' → w'.cell? ⟨wr.heap.size, 2, none⟩ = some (.string s) := fun w' q => by
        rw [Lib.cell_of_heap ((q.block _ hXlt).trans hX)]; rfl
      go_wp2_with (go_at_call 9; refine (hL _ (ht.below hba)).mono ?_; rintro e w' ⟨rfl, hb'⟩; have y2 := hkp w' hb')
      go_roundw
      case rel => exact ⟨k + 1, by omega, by simp, hbb.trans (hb'.mono hbb.size)⟩
      case measure => simp [RowKit.intOf]; omega
    · obtain rfl : k = 8 := by omega
      have hA0 := hwr.alloc hwr.size (.cells #[.int .i64 1, .int .i64 1, .int .i64 2, .int .i64 0, .int .i64 1, .int .i64 0] 37)
      have hL1 := Labels_yes _ E3 _ (en3 wr) rfl (ht.below hA0)
      rw [E3_labs] at hL1
      clear hK hb
      go_wp2_with fail
      refine hL1.mono ?_
      rintro e w2 ⟨v2, rfl, q1, q2⟩
      have B2 : Below w.heap.size w w2 := hA0.trans (q2.mono hA0.size)
      have T2 : TxAt w2 v2 L3 := TxAt.of_row q1 (by decide)
      clear hL1 hA0 q1 q2
      have A2 := (Below.refl w2.heap.size w2).alloc (Nat.le_refl _) (.cells #[.int .i64 1, .int .i64 0, .int .i64 1, .int .i64 1, .int .i64 1, .int .i64 1, .int .i64 0, .int .i64 0, .int .i64 1, .int .i64 0, .int .i64 1, .int .i64 1] 37)
      have hC := Counts_yes _ E6 0 (by omega) _ (en6 w2) E6_ok
      rw [E6_four] at hC
      go_wp2_with fail
      refine hC.mono ?_
      rintro e w3 ⟨v3, rfl, q1, q2⟩
      have C3 : Below w2.heap.size w2 w3 := A2.trans (q2.mono A2.size)
      have I3 : InAt w3 v3 [2, 1, 0, 0] := InAt.of_row q1 (by decide)
      clear hC A2 q1 q2
      go_wp2_with fail
      refine (Label_no 4 1 (by decide) _).mono ?_
      rintro e w3' ⟨rfl, rfl⟩
      go_wp2_with fail
      refine (Label_no 0 0 (by decide) _).mono ?_
      rintro e w3' ⟨rfl, rfl⟩
      go_wp2_with fail
      refine (Label_no 2 4000 (by decide) _).mono ?_
      rintro e w3' ⟨rfl, rfl⟩
      have A3 := (Below.refl w3'.heap.size w3').alloc (Nat.le_refl _) (.cells #[.int .i64 9, .int .i64 0] 37)
      have hL2 := Labels_no _ [(9, 0)] _ (en1 w3') (by decide)
      go_wp2_with fail
      refine hL2.mono ?_
      rintro e w4 ⟨rfl, q2⟩
      have C4 : Below w3'.heap.size w3' w4 := A3.trans (q2.mono A3.size)
      have C24 : Below w2.heap.size w2 w4 := C3.trans (C4.mono C3.size)
      have B4 : Below w.heap.size w w4 := B2.trans (C24.mono B2.size)
      clear hL2 A3 q2
      go_wp2_with fail
      refine (awake_yes w4 (ht.below B4)).mono ?_
      rintro e w5 ⟨rfl, q2⟩
      have C5 : Below w3'.heap.size w3' w5 := C4.trans (q2.mono C4.size)
      have C25 : Below w2.heap.size w2 w5 := C24.trans (q2.mono C24.size)
      have B5 : Below w.heap.size w w5 := B4.trans (q2.mono B4.size)
      clear q2
      have A5 := (Below.refl w5.heap.size w5).alloc (Nat.le_refl _) (.cells #[.string ⟨#[97, 41]⟩, .string ⟨#[49, 46]⟩, .string ⟨#[49, 46]⟩] 9)
      have hS := sameTexts_yes _ _ L3 _ ((T2.below C25).below A5) (tx_new w5 L3 (by decide))
      go_wp2_with fail
      refine hS.mono ?_
      rintro e w6 ⟨rfl, q2⟩
      have C56 : Below w5.heap.size w5 w6 := A5.trans (q2.mono A5.size)
      have C6 : Below w3'.heap.size w3' w6 := C5.trans (C56.mono C5.size)
      have B6 : Below w.heap.size w w6 := B5.trans (C56.mono B5.size)
      clear hS A5 q2
      have A6 := (Below.refl w6.heap.size w6).alloc (Nat.le_refl _) (.cells #[.int .i64 2, .int .i64 1, .int .i64 0, .int .i64 0] 3)
      have hI := sameInts_yes _ _ [2, 1, 0, 0] _ ((I3.below C6).below A6) (in_new w6 [2, 1, 0, 0] (by decide))
      go_wp2_with fail
      refine hI.mono ?_
      rintro e w7 ⟨rfl, q2⟩
      have B7 : Below w.heap.size w w7 := B6.trans ((A6.trans (q2.mono A6.size)).mono B6.size)
      clear hI
      go_wp2_with fail
      go_ret
      exact ⟨rfl, B7⟩

set_option maxRecDepth 100000 in
theorem lifted (os : Os) (started : os.Started) (H : Type) (enc : TypeId × Value → H) :
    ReturnsInHanded {} Tryd.checked os 8 .any (fun w args => (Rows.numberKnownSpec.pre enc Tryd.prog Tryd.f8 Rows.numberKnownRow.domain false w args ∧ laidMetH Tryd.prog laidL w) ∧ sizedMet enc Tryd.prog Tryd.f8 (OpenSpec.ofChange Rows.numberKnownSpec) false w args)
      (Rows.numberKnownSpec.post enc Tryd.prog Tryd.f8 false true false false) := by
  refine returnsInHanded_of_change_and (C := Tryd.checked) (X := fun w _ => laidMetH Tryd.prog laidL w) (fun _ _ _ hh h => h.of_heap hh) own started (by kernel_rfl) Tryd.func8
    (ChangeSpec.witness_shaped (enc := enc) (C := Tryd.checked) (os := os) (X := fun w _ => laidMetH Tryd.prog laidL w) false (World.laidAll Tryd.prog os laidL) #[] 8 (World.laidAll_os _ _ _)
      (World.shaped_of_ZipB (by kernel_rfl) (by kernel_rfl)) (by kernel_rfl) (by kernel_rfl) (by kernel_rfl)
      (by rw [MakeChecks.laidMetH_plain _ _ _ (by kernel_rfl)]; exact laidMet_laidAll _ (by kernel_rfl) (by kernel_rfl))) ?_
  intro W base args ds gs before hval0 hW hcnd _ hL _
  have hval : ∀ (j : Nat) t v, Tryd.f8.params[j]? = some t → args[j]? = some v → Value.okWide Tryd.prog W .any base t v := hval0
  have hW' := hW
  obtain ⟨p, q, hA0, hV, rfl, hfz, hnd⟩ := hW
  have hA : DataW.TrodAll enc Tryd.prog W 0 (fun _ => true) true Tryd.f8.params.toList args.toList ds p := hA0
  rw [Tryd.params8] at hA hval
  obtain ⟨hargs, rfl, rfl⟩ := trodAll_nil hA
  obtain rfl : args = #[] := by cases args; simp_all
  obtain ⟨rfl, rfl⟩ := trodVars_none hV
  clear hA0 hval0
  refine (walk W (tab_of hL)).mono fun e W' ⟨he, bel⟩ => ?_
  subst he
  exact ⟨_, rfl, _, _, _, [], _, [], hW', trodAll_mk1 (shut_bool Tryd.underlying4 _), trodAll_mk0, rfl, bel.frame _, fun h => by cases h⟩

theorem over : Rows.NumberKnownSaid :=
  OpenClaim.holds_of_wide 8 Tryd.f8 rfl rfl rfl rfl rfl rfl rfl ⟨rfl, rfl, rfl, rfl, rfl⟩ rfl rfl rfl rfl rfl (by kernel_rfl) Tryd.func8 (by kernel_rfl)
    (of_decide_eq_true (by kernel_rfl)) (by unfold Func.isWrapper; first | (rw [if_pos (by decide +kernel)]; kernel_rfl) | (rw [if_neg (by decide +kernel)]; exact ⟨rfl, rfl⟩))
    (fun os started H enc _ => lifted os started H enc)

end Go.Proofs.YtjagnidkjpmkcaaDoor.numberKnown
namespace Go.Proofs.YtjagnidkjpmkcaaDoor

theorem numberKnown_holds : Rows.NumberKnownCardSaid :=
  Claim7.holds_tied_plain_at .later [] [.data, .data, .data] true (true, "c601c4f8caee564fb420438873ca0a117589b02a3eb6d476e76363b032b0e9b9") false numberKnown.over (fun _ h => by cases h) (by kernel_rfl) (fun _ h => by cases h) numberKnown_row_tie rfl ⟨rfl, rfl⟩ (by kernel_rfl) rfl
    (fun f fn hf hfn => by
      obtain rfl : f = 8 := Option.some.inj ((show Tryd.prog.funcNamed "quire/quirelaw04.NumberKnown" = some 8 by kernel_rfl).symm.trans hf) |>.symm
      obtain rfl : fn = Tryd.f8 := (Option.some.inj (Tryd.func8.symm.trans hfn)).symm
      exact ⟨by kernel_rfl, fun j t ht => by
        rw [Tryd.params8] at ht
        simp at ht⟩)
    (by kernel_rfl)

end Go.Proofs.YtjagnidkjpmkcaaDoor
