/-
  What is proved here: for all levels and numbers NumberApart answers true: unlike numbers have unlike labels on the levels 0 to 2. Its conditions: the listed tables lie as the program's own text lays them.
-/
import Derived.Test.YtjagnidkjpmkcaaDoorAwake
import Derived.Test.YtjagnidkjpmkcaaDoorOpen
namespace Go.Proofs.YtjagnidkjpmkcaaDoor.numberApart
open Go.ChangeShapes Go.WideShapes Go.ChangeAt Go.RowKit

set_option maxHeartbeats 2000000 in
set_option maxRecDepth 100000 in
theorem walk (l m n : Int) (w : World) (ht : Tab w) :
    Calls Tryd.prog 7 #[.int .i64 l, .int .i64 m, .int .i64 n] w fun e w' => e = .returned (.bool true) ∧ Below w.heap.size w w' := by
  obtain ⟨lv, hlv⟩ : ∃ x : Nat, pickI l ((3 : Nat) : Int) = x := ⟨(pickI l ((3 : Nat) : Int)).toNat, by have := pick_lo l (n := 3) (by omega); omega⟩
  obtain ⟨a, ha⟩ : ∃ x : Nat, pickI m ((3999 : Nat) : Int) = x := ⟨(pickI m ((3999 : Nat) : Int)).toNat, by have := pick_lo m (n := 3999) (by omega); omega⟩
  obtain ⟨b, hb⟩ : ∃ x : Nat, pickI n ((3999 : Nat) : Int) = x := ⟨(pickI n ((3999 : Nat) : Int)).toNat, by have := pick_lo n (n := 3999) (by omega); omega⟩
  have hlv3 : lv < 3 := by have := pick_hi l (n := 3) (by omega); omega
  have ha4 : a < 3999 := by have := pick_hi m (n := 3999) (by omega); omega
  have hb4 : b < 3999 := by have := pick_hi n (n := 3999) (by omega); omega
  have p1 := pick_any l 3 (by omega) (by omega)
  have p2 := pick_any m 3999 (by omega) (by omega)
  have p3 := pick_any n 3999 (by omega) (by omega)
  rw [hlv] at p1; rw [ha] at p2; rw [hb] at p3
  clear hlv ha hb
  have q1 : ∀ W, Tab W → Calls Tryd.prog 9 #[.int .i64 lv, .int .i64 (1 + (a : Int))] W fun e w' => e = .returned (.tuple #[.string ⟨(labelN lv (1 + a)).toArray⟩, .int .i64 0]) ∧ Below W.heap.size W w' := fun W hT => by
    have := Label_yes lv (1 + a) (by omega) (by omega) (by omega) W hT
    rw [show ((1 + a : Nat) : Int) = 1 + (a : Int) by omega] at this
    exact this
  have q2 : ∀ W, Tab W → Calls Tryd.prog 9 #[.int .i64 lv, .int .i64 (1 + (b : Int))] W fun e w' => e = .returned (.tuple #[.string ⟨(labelN lv (1 + b)).toArray⟩, .int .i64 0]) ∧ Below W.heap.size W w' := fun W hT => by
    have := Label_yes lv (1 + b) (by omega) (by omega) (by omega) W hT
    rw [show ((1 + b : Nat) : Int) = 1 + (b : Int) by omega] at this
    exact this
  have haw := awake_yes w ht
  by_cases hab : a = b
  · subst hab
    generalize (⟨(labelN lv (1 + a)).toArray⟩ : ByteArray) = S at q1 q2
    go_enter Tryd.func7, Tryd.ntmps7
    go_wp2_with fail
    refine haw.mono ?_
    rintro e w1 ⟨rfl, hb1⟩
    go_wp2_with fail
    refine (p1 _).mono ?_
    rintro e w1' ⟨rfl, rfl⟩
    go_wp2_with fail
    refine (p2 _).mono ?_
    rintro e w1' ⟨rfl, rfl⟩
    go_wp2_with fail
    refine (p3 _).mono ?_
    rintro e w1' ⟨rfl, rfl⟩
    go_wp2_with fail
    refine (q1 _ (ht.below hb1)).mono ?_
    rintro e w2 ⟨rfl, hb2⟩
    go_wp2_with fail
    have hb12 := hb1.trans (hb2.mono hb1.size)
    refine (q2 _ (ht.below hb12)).mono ?_
    rintro e w3 ⟨rfl, hb3⟩
    go_wp2_with fail
    go_ret
    exact ⟨rfl, hb12.trans (hb3.mono hb12.size)⟩
  · have hne : (⟨(labelN lv (1 + a)).toArray⟩ : ByteArray) ≠ ⟨(labelN lv (1 + b)).toArray⟩ := fun e => by
      have e1 : (labelN lv (1 + a)).toArray = (labelN lv (1 + b)).toArray := congrArg ByteArray.data e
      have e2 : labelN lv (1 + a) = labelN lv (1 + b) := by simpa using e1
      have := label_inj hlv3 (by omega) (by omega) e2
      omega
    generalize (⟨(labelN lv (1 + a)).toArray⟩ : ByteArray) = S at q1 hne
    generalize (⟨(labelN lv (1 + b)).toArray⟩ : ByteArray) = T at q2 hne
    have hn1 : ¬ ((1 : Int) + a = 1 + b) := by omega
    have hn2 : ¬ ((a : Int) = b) := by omega
    go_enter Tryd.func7, Tryd.ntmps7
    go_wp2_with fail
    refine haw.mono ?_
    rintro e w1 ⟨rfl, hb1⟩
    go_wp2_with fail
    refine (p1 _).mono ?_
    rintro e w1' ⟨rfl, rfl⟩
    go_wp2_with fail
    refine (p2 _).mono ?_
    rintro e w1' ⟨rfl, rfl⟩
    go_wp2_with fail
    refine (p3 _).mono ?_
    rintro e w1' ⟨rfl, rfl⟩
    go_wp2_with fail
    refine (q1 _ (ht.below hb1)).mono ?_
    rintro e w2 ⟨rfl, hb2⟩
    go_wp2_with fail
    have hb12 := hb1.trans (hb2.mono hb1.size)
    refine (q2 _ (ht.below hb12)).mono ?_
    rintro e w3 ⟨rfl, hb3⟩
    go_wp2_with fail
    go_ret
    refine ⟨?_, hb12.trans (hb3.mono hb12.size)⟩
    show Ending.returned (Value.bool ((S.toList == T.toList) == ((1 + (a : Int)) == 1 + (b : Int)))) = _
    rw [strEq_no hne, show ((1 + (a : Int)) == 1 + (b : Int)) = false by simp; omega]
    rfl

set_option maxRecDepth 100000 in
theorem lifted (os : Os) (started : os.Started) (H : Type) (enc : TypeId × Value → H) :
    ReturnsInHanded {} Tryd.checked os 7 .any (fun w args => (Rows.numberApartSpec.pre enc Tryd.prog Tryd.f7 Rows.numberApartRow.domain false w args ∧ laidMetH Tryd.prog laidL w) ∧ sizedMet enc Tryd.prog Tryd.f7 (OpenSpec.ofChange Rows.numberApartSpec) false w args)
      (Rows.numberApartSpec.post enc Tryd.prog Tryd.f7 false true false false) := by
  refine returnsInHanded_of_change_and (C := Tryd.checked) (X := fun w _ => laidMetH Tryd.prog laidL w) (fun _ _ _ hh h => h.of_heap hh) own started (by kernel_rfl) Tryd.func7
    (ChangeSpec.witness_shaped (enc := enc) (C := Tryd.checked) (os := os) (X := fun w _ => laidMetH Tryd.prog laidL w) false (World.laidAll Tryd.prog os laidL) #[.int .i64 0, .int .i64 0, .int .i64 0] 8 (World.laidAll_os _ _ _)
      (World.shaped_of_ZipB (by kernel_rfl) (by kernel_rfl)) (by kernel_rfl) (by kernel_rfl) (by kernel_rfl)
      (by rw [MakeChecks.laidMetH_plain _ _ _ (by kernel_rfl)]; exact laidMet_laidAll _ (by kernel_rfl) (by kernel_rfl))) ?_
  intro W base args ds gs before hval0 hW hcnd _ hL _
  have hval : ∀ (j : Nat) t v, Tryd.f7.params[j]? = some t → args[j]? = some v → Value.okWide Tryd.prog W .any base t v := hval0
  have hW' := hW
  obtain ⟨p, q, hA0, hV, rfl, hfz, hnd⟩ := hW
  have hA : DataW.TrodAll enc Tryd.prog W 0 (fun _ => true) true Tryd.f7.params.toList args.toList ds p := hA0
  rw [Tryd.params7] at hA hval
  obtain ⟨v0, vs0, d0, ds0, p0, q0, hargs, rfl, rfl, h0, r0⟩ := trodAll_cons hA
  obtain ⟨v1, vs1, d1, ds1, p1, q1, rfl, rfl, rfl, h1, r1⟩ := trodAll_cons r0
  obtain ⟨v2, vs2, d2, ds2, p2, q2, rfl, rfl, rfl, h2, r2⟩ := trodAll_cons r1
  obtain ⟨rfl, rfl, rfl⟩ := trodAll_nil r2
  obtain rfl : args = #[v0, v1, v2] := by cases args; simp_all
  obtain ⟨rfl, rfl⟩ := trodVars_none hV
  obtain ⟨a0, rfl, rfl, rfl, w0⟩ := open_int Tryd.underlying3 (hval 0 3 v0 rfl rfl) h0
  obtain ⟨a1, rfl, rfl, rfl, w1⟩ := open_int Tryd.underlying3 (hval 1 3 v1 rfl rfl) h1
  obtain ⟨a2, rfl, rfl, rfl, w2⟩ := open_int Tryd.underlying3 (hval 2 3 v2 rfl rfl) h2
  clear hA0 hval0
  refine (walk a0 a1 a2 W (tab_of hL)).mono fun e W' ⟨he, bel⟩ => ?_
  subst he
  exact ⟨_, rfl, _, _, _, [], _, [], hW', trodAll_mk1 (shut_bool Tryd.underlying4 _), (trodAll_cons_mk (shut_int Tryd.underlying3 w0) (trodAll_cons_mk (shut_int Tryd.underlying3 w1) (trodAll_cons_mk (shut_int Tryd.underlying3 w2) trodAll_mk0))), rfl, bel.frame _, fun h => by cases h⟩

theorem over : Rows.NumberApartSaid :=
  OpenClaim.holds_of_wide 7 Tryd.f7 rfl rfl rfl rfl rfl rfl rfl ⟨rfl, rfl, rfl, rfl, rfl⟩ rfl rfl rfl rfl rfl (by kernel_rfl) Tryd.func7 (by kernel_rfl)
    (of_decide_eq_true (by kernel_rfl)) (by unfold Func.isWrapper; first | (rw [if_pos (by decide +kernel)]; kernel_rfl) | (rw [if_neg (by decide +kernel)]; exact ⟨rfl, rfl⟩))
    (fun os started H enc _ => lifted os started H enc)

end Go.Proofs.YtjagnidkjpmkcaaDoor.numberApart
namespace Go.Proofs.YtjagnidkjpmkcaaDoor

theorem numberApart_holds : Rows.NumberApartCardSaid :=
  Claim7.holds_tied_plain_at .later [] [.data, .data, .data] true (true, "c601c4f8caee564fb420438873ca0a117589b02a3eb6d476e76363b032b0e9b9") false numberApart.over (fun _ h => by cases h) (by kernel_rfl) (fun _ h => by cases h) numberApart_row_tie rfl ⟨rfl, rfl⟩ (by kernel_rfl) rfl
    (fun f fn hf hfn => by
      obtain rfl : f = 7 := Option.some.inj ((show Tryd.prog.funcNamed "quire/quirelaw04.NumberApart" = some 7 by kernel_rfl).symm.trans hf) |>.symm
      obtain rfl : fn = Tryd.f7 := (Option.some.inj (Tryd.func7.symm.trans hfn)).symm
      exact ⟨by kernel_rfl, fun j t ht => by
        rw [Tryd.params7] at ht
        have hm : t ∈ [3, 3, 3] := by simpa using Array.mem_of_getElem? ht
        have hall : ([3, 3, 3].all fun u => !Tryd.prog.wantsStandIn u) = true := by kernel_rfl
        exact (show Tryd.prog.wantsStandIn t = false by simpa using List.all_eq_true.1 hall t hm)⟩)
    (by kernel_rfl)

end Go.Proofs.YtjagnidkjpmkcaaDoor
