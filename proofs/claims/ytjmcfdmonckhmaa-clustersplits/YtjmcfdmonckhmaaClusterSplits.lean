/-
  What is proved here: ClusterSplits answers true at every input, with no condition: the clusters of any text, or the error, are what the document says, in new memory each time.
-/
import Derived.Test.YtjmcfdmonckhmaaRefA
import Derived.ProofKit
import Derived.OpenShut
namespace Go.Proofs.Ytjmcfdmonckhmaa.clusterSplits
open Go.ChangeShapes Go.WideShapes Go.ChangeAt Go.RowKit Go.WideMaps Go.WideElems
open Go.ChangeMaps (open_string shut_string)

theorem own : ownKnob Try.prog.godebug = none := by kernel_rfl

theorem cls_nil (W : World) : ClsAt W (.slice none 0 0) [] := ⟨⟨none, 0, rfl, .inl rfl⟩, by simp⟩

set_option maxRecDepth 100000 in
set_option maxHeartbeats 4000000 in
theorem walk_no (t : ByteArray) (h : wrongI t ≠ 0) (w : World) : Calls Try.prog 3 #[.string t] w fun e w' => e = .returned (.bool true) ∧ Below w.heap.size w w' := by
  have hs := fun w => eq_below (split_no t h w)
  have hr := fun w => eq_below (rsplit_no t h w)
  have hm := fun w => same_yes (.slice none 0 0) (.slice none 0 0) [] w (cls_nil w) (cls_nil w)
  generalize wrongI t = n at h hs hr
  have hnn : (n != n) = false := by simp
  go_enter Try.func3, Try.ntmps3
  go_wp2_with fail
  refine (hs _).mono ?_
  rintro e w1 ⟨rfl, B1⟩
  go_wp2_with fail
  refine (hr _).mono ?_
  rintro e w2 ⟨rfl, B2⟩
  have C2 := B1.trans (B2.mono B1.size)
  go_wp2_with fail
  refine (hm _).mono ?_
  rintro e w3 ⟨rfl, B3⟩
  have C3 := C2.trans (B3.mono C2.size)
  clear B1 B2 B3 C2
  go_wp2_with fail
  go_loopw [7] (fun i wr => i = .int .i64 0 ∧ wr = w3) (fun _ _ => 0)
  case atStart => exact ⟨rfl, rfl⟩
  case round =>
    obtain ⟨rfl, rfl⟩ := hrel
    go_wp2_with fail
    refine (hs _).mono ?_
    rintro e w4 ⟨rfl, B4⟩
    have C4 := C3.trans (B4.mono C3.size)
    go_wp2_with fail
    refine (hm _).mono ?_
    rintro e w5 ⟨rfl, B5⟩
    have C5 := C4.trans (B5.mono C4.size)
    go_wp2_with fail
    refine (awake_any _).mono ?_
    rintro e w6 ⟨rfl, B6⟩
    go_wp2_with fail
    go_ret
    exact ⟨rfl, C5.trans (B6.mono C5.size)⟩

set_option maxRecDepth 100000 in
set_option maxHeartbeats 4000000 in
theorem walk_ok (t : ByteArray) (h : wrongI t = 0) (w : World) : Calls Try.prog 3 #[.string t] w fun e w' => e = .returned (.bool true) ∧ Below w.heap.size w w' := by
  have hs := split_cls t h
  have hr := rsplit_ok t h
  have hnl := num_le t
  have hsz := ok_size h
  clear h
  go_enter Try.func3, Try.ntmps3
  go_wp2_with fail
  refine (hs _).mono ?_
  rintro e w1 ⟨v, rfl, ⟨hv, hcv⟩, B1⟩
  go_wp2_with fail
  refine (hr _).mono ?_
  rintro e w2 ⟨u, rfl, hu, B2⟩
  have C2 := B1.trans (B2.mono B1.size)
  rw [rowC_cls] at hu
  have hcu := own_cls (cls_len t).symm hu (by rw [cls_len]; omega)
  go_wp2_with fail
  refine (same_yes v u (cls t) w2 (hcv.below B2 (Nat.le_refl _)) hcu).mono ?_
  rintro e w3 ⟨rfl, B3⟩
  have C3 := C2.trans (B3.mono C2.size)
  have hu3 : Hid (w3.ownsRow w1.heap.size 28 3 u (num t) (flat (cls t))) := ownsRow_below hu B3
  have hv3 : w3.ownsRow w.heap.size 28 3 v (num t) (flat (cls t)) := ownsRow_below (ownsRow_below hv B2) B3
  have hvb : Hid (∀ g, v.ownBlock = some g → w.heap.size ≤ g ∧ g < w1.heap.size) := fun g hg => hv.lt g hg
  obtain ⟨a, cap, rfl, hp3⟩ : ∃ a cap, v = .slice a (num t) cap ∧ Hid (num t = 0 ∨ ∃ g, a = some ⟨g, 0, none⟩ ∧ (w.heap.size ≤ g ∧ g < w1.heap.size) ∧ ∃ cur, w3.heap[g]? = some (.cells cur 28 (0, 0)) ∧ num t * 3 ≤ cur.size) := by
    rcases hv3.2 with ⟨rfl, hn⟩ | ⟨g, cap, cur, rfl, hb', hg, h1, h2, h3, _⟩
    · exact ⟨none, 0, by rw [hn], .inl hn⟩
    · exact ⟨_, cap, rfl, .inr ⟨g, rfl, hvb.out g rfl, cur, hg, by rw [h3]; exact Nat.mul_le_mul_right 3 h1⟩⟩
  clear hv hcv hcu hu hv3 hvb B1 B2 B3 C2
  go_wp2_with fail
  go_loopw [7] (fun i wr => ∃ k : Nat, k ≤ num t ∧ i = .int .i64 k ∧ Below w.heap.size w wr ∧ Hid (wr.ownsRow w1.heap.size 28 3 u (num t) (flat (cls t))) ∧ Hid (num t = 0 ∨ ∃ g, a = some ⟨g, 0, none⟩ ∧ (w.heap.size ≤ g ∧ g < w1.heap.size) ∧ ∃ cur, wr.heap[g]? = some (.cells cur 28 (0, 0)) ∧ num t * 3 ≤ cur.size)) (fun i _ => num t - (intOf i).toNat)
  case atStart => exact ⟨0, Nat.zero_le _, rfl, C3, hu3, hp3⟩
  case round =>
    obtain ⟨k, hk, rfl, hb, hu, hp⟩ := hrel
    by_cases hlt : k < num t
    · rcases hp.out with h0 | ⟨g, rfl, ⟨hg1, hg2⟩, cur, hg, hcs⟩
      · omega
      · have hc : wr.cell? ⟨g, k * 3 + 1, none⟩ = some (cur[k * 3 + 1]'(by omega)) := by rw [Lib.cell_of_heap hg]; exact Array.getElem?_eq_getElem (by omega)
        have hf : wr.frozen? ⟨g, k * 3 + 1, none⟩ = false := Lib.frozen_of_heap hg _
        have hb2 := hb.setCell (p := ⟨g, k * 3 + 1, none⟩) hg1 (.int .i64 99)
        have hu2 : Hid ((wr.setCell ⟨g, k * 3 + 1, none⟩ (.int .i64 99)).ownsRow w1.heap.size 28 3 u (num t) (flat (cls t))) := ownsRow_setCell_below hu.out (a := ⟨g, k * 3 + 1, none⟩) hg2 _
        have hp2 : Hid (num t = 0 ∨ ∃ g', some (⟨g, 0, none⟩ : Addr) = some ⟨g', 0, none⟩ ∧ (w.heap.size ≤ g' ∧ g' < w1.heap.size) ∧ ∃ cur, (wr.setCell ⟨g, k * 3 + 1, none⟩ (.int .i64 99)).heap[g']? = some (.cells cur 28 (0, 0)) ∧ num t * 3 ≤ cur.size) :=
          .inr ⟨g, rfl, ⟨hg1, hg2⟩, _, heap_setCell_same wr g (k * 3 + 1) cur 28 _ hg, by simpa using hcs⟩
        generalize cur[k * 3 + 1]'(by omega) = old at hc
        have f1 : (k : Int) < num t := by omega
        clear hp hu hp3 hu3 hg
        go_wp2_with fail
        go_roundw
        case rel => exact ⟨k + 1, by omega, by simp, hb2, hu2, hp2⟩
        case measure => simp [intOf]; omega
    · have f1 : ¬ (k : Int) < num t := by omega
      have hcu := own_cls (cls_len t).symm hu.out (by rw [cls_len]; omega)
      clear hp hp3 hu3 hu
      go_wp2_with fail
      refine (hs _).mono ?_
      rintro e w4 ⟨x, rfl, ⟨_, hx⟩, B4⟩
      have C4 := hb.trans (B4.mono hb.size)
      go_wp2_with fail
      refine (same_yes x u (cls t) w4 hx (hcu.below B4 (Nat.le_refl _))).mono ?_
      rintro e w5 ⟨rfl, B5⟩
      have C5 := C4.trans (B5.mono C4.size)
      clear hcu hx
      go_wp2_with fail
      refine (awake_any _).mono ?_
      rintro e w6 ⟨rfl, B6⟩
      go_wp2_with fail
      go_ret
      exact ⟨rfl, C5.trans (B6.mono C5.size)⟩

theorem walk (t : ByteArray) (w : World) : Calls Try.prog 3 #[.string t] w fun e w' => e = .returned (.bool true) ∧ Below w.heap.size w w' := by
  by_cases h : wrongI t = 0
  · exact walk_ok t h w
  · exact walk_no t h w

set_option maxRecDepth 100000 in
theorem lifted (os : Os) (started : os.Started) (H : Type) (enc : TypeId × Value → H) :
    ReturnsInHanded {} Try.checked os 3 .any (Rows.clusterSplitsSpec.pre6 enc Try.prog Try.f3 Rows.clusterSplitsRow.domain false) (Rows.clusterSplitsSpec.post enc Try.prog Try.f3 false true false false) := by
  refine returnsInHanded_of_change (C := Try.checked) own started (by kernel_rfl) Try.func3
    (ChangeSpec.witness6 (enc := enc) (C := Try.checked) false ⟨#[], #[.string ByteArray.empty], []⟩ 8 (by kernel_rfl) (by kernel_rfl) (by kernel_rfl) (by kernel_rfl)) ?_
  intro W base args ds gs before hval0 hW hcnd _
  have hval : ∀ (j : Nat) t v, Try.f3.params[j]? = some t → args[j]? = some v → Value.okWide Try.prog W .any base t v := hval0
  have hW' := hW
  obtain ⟨p, q, hA0, hV, rfl, hfz, hnd⟩ := hW
  have hA : DataW.TrodAll enc Try.prog W 0 (fun _ => true) true Try.f3.params.toList args.toList ds p := hA0
  rw [Try.params3] at hA hval
  obtain ⟨v0, vs0, d0, ds0, p0, q0, hargs, rfl, rfl, h0, r0⟩ := trodAll_cons hA
  obtain ⟨rfl, rfl, rfl⟩ := trodAll_nil r0
  obtain rfl : args = #[v0] := by cases args; simp_all
  obtain ⟨rfl, rfl⟩ := trodVars_none hV
  obtain ⟨a0, rfl, rfl, rfl, w0⟩ := open_string Try.underlying9 (hval 0 9 v0 rfl rfl) h0
  clear hA0 hval0
  simp only [List.append_nil] at hW'
  refine (walk a0 W).mono fun e W' ⟨he, hg⟩ => ?_
  subst he
  exact ⟨_, rfl, _, _, _, [], [], [], hW', trodAll_mk1 (shut_bool Try.underlying4 _), (trodAll_cons_mk (shut_string Try.underlying9 w0) trodAll_mk0), rfl, hg.frame _, fun h => by cases h⟩

theorem over : Rows.clusterSplitsRow.holds Try.pinned (OpenSpec.ofChange Rows.clusterSplitsSpec) :=
  OpenClaim.holds_of_wide 3 Try.f3 rfl rfl rfl rfl rfl rfl rfl ⟨rfl, rfl, rfl, rfl, rfl⟩ rfl rfl rfl rfl rfl (by kernel_rfl) Try.func3 (by kernel_rfl)
    (of_decide_eq_true (by kernel_rfl)) (by unfold Func.isWrapper; first | (rw [if_pos (by decide +kernel)]; kernel_rfl) | (rw [if_neg (by decide +kernel)]; exact ⟨rfl, rfl⟩))
    (fun os started H enc _ => lifted os started H enc)

end Go.Proofs.Ytjmcfdmonckhmaa.clusterSplits
namespace Go.Proofs.Ytjmcfdmonckhmaa

theorem clusterSplits_holds : Rows.ClusterSplitsSaid := clusterSplits.over

end Go.Proofs.Ytjmcfdmonckhmaa
