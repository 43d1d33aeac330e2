/-
  What is proved here: ClusterWhole answers true at every input, with no condition: clusters, one behind the other, are the text, and Next and Prev go from boundary to boundary, and back.
-/
import Derived.Test.YtjmcfdmonckhmaaKnown
import Derived.ProofKit
import Derived.OpenShut
namespace Go.Proofs.Ytjmcfdmonckhmaa.clusterWhole
open Go.ChangeShapes Go.WideShapes Go.ChangeAt Go.RowKit Go.WideMaps Go.WideElems
open Go.ChangeMaps (open_string shut_string)

theorem own : ownKnob Try.prog.godebug = none := by kernel_rfl

theorem bnd_yes {t : ByteArray} (h : wrongI t = 0) {i : Nat} (hi : i ≤ num t) : bndI t (st t i : Nat) = true := decide_eq_true ⟨h, i, hi, rfl⟩
theorem bnd_no {t : ByteArray} {i k : Nat} (h1 : st t i < k) (h2 : k < st t (i + 1)) : bndI t (k : Nat) = false := decide_eq_false (fun ⟨_, j, _, he⟩ => by
  have he' : st t j = k := by omega
  by_cases hj : j ≤ i
  · have := st_mono t hj; omega
  · have := st_mono t (show i + 1 ≤ j by omega); omega)

set_option maxRecDepth 100000 in
set_option maxHeartbeats 4000000 in
theorem walk_no (t : ByteArray) (h : wrongI t ≠ 0) (w : World) : Calls Try.prog 6 #[.string t] w fun e w' => e = .returned (.bool true) ∧ Below w.heap.size w w' := by
  have hs := fun w => eq_below (split_no t h w)
  generalize wrongI t = n at h hs
  have hne : (n == 0) = false := by simpa using h
  go_enter Try.func6, Try.ntmps6
  go_wp2_with fail
  refine (known_any _).mono ?_
  rintro e w1 ⟨rfl, B1⟩
  go_wp2_with fail
  refine (hs _).mono ?_
  rintro e w2 ⟨rfl, B2⟩
  go_wp2_with fail
  go_ret
  exact ⟨rfl, B1.trans (B2.mono B1.size)⟩

set_option maxRecDepth 100000 in
set_option maxHeartbeats 4000000 in
theorem walk_long (t : ByteArray) (h : wrongI t = 0) (hl : 600 < t.size) (w : World) : Calls Try.prog 6 #[.string t] w fun e w' => e = .returned (.bool true) ∧ Below w.heap.size w w' := by
  have hs := split_cls t h
  go_enter Try.func6, Try.ntmps6
  go_wp2_with fail
  refine (known_any _).mono ?_
  rintro e w1 ⟨rfl, B1⟩
  go_wp2_with fail
  refine (hs _).mono ?_
  rintro e w2 ⟨v, rfl, hc, B2⟩
  go_wp2_with fail
  go_ret
  exact ⟨rfl, B1.trans (B2.mono B1.size)⟩

theorem cls_cells {t : ByteArray} {b : Nat} {W : World} (hc : ∀ (i : Nat) (h : i < (cls t).length), W.cell? ⟨b, i * 3, none⟩ = some (.int .i64 (cls t)[i].f) ∧ W.cell? ⟨b, i * 3 + 1, none⟩ = some (.int .i64 (cls t)[i].t) ∧ W.cell? ⟨b, i * 3 + 2, none⟩ = some (.int .i64 (cls t)[i].k))
    {i : Nat} (hi : i < num t) : W.cell? ⟨b, i * 3, none⟩ = some (.int .i64 (st t i : Nat)) ∧ W.cell? ⟨b, i * 3 + 1, none⟩ = some (.int .i64 (st t (i + 1) : Nat)) := by
  obtain ⟨c0, c1, _⟩ := hc i (by rw [cls_len]; exact hi)
  rw [cls_get] at c0 c1
  exact ⟨c0, c1⟩

set_option maxRecDepth 100000 in
set_option maxHeartbeats 4000000 in
theorem walk_ok (t : ByteArray) (h : wrongI t = 0) (hl : t.size ≤ 600) (w : World) : Calls Try.prog 6 #[.string t] w fun e w' => e = .returned (.bool true) ∧ Below w.heap.size w w' := by
  have hs := split_cls t h
  have hend : Hid (∀ w, Calls Try.prog 18 #[.string t, .int .i64 (t.size : Nat)] w fun e w' => e = .returned (.bool true) ∧ Below w.heap.size w w') := fun w => by
    have := bound_any t (t.size : Nat) w
    rwa [show bndI t (t.size : Nat) = true from num_end t ▸ bnd_yes h (Nat.le_refl _)] at this
  have hN : Hid (∀ i, i < num t → ∀ w, Calls Try.prog 14 #[.string t, .int .i64 (st t i : Nat)] w fun e w' => e = .returned (.tuple #[.int .i64 (st t (i + 1) : Nat), .int .i64 0]) ∧ Below w.heap.size w w') :=
    fun i hi w => next_ok t h (st t i) i (by omega) (Nat.le_refl _) (fun _ => st_lt (num_lt hi)) (st_le t i) w
  have hP : Hid (∀ i, i < num t → ∀ w, Calls Try.prog 16 #[.string t, .int .i64 (st t (i + 1) : Nat)] w fun e w' => e = .returned (.tuple #[.int .i64 (st t i : Nat), .int .i64 0]) ∧ Below w.heap.size w w') :=
    fun i hi w => prev_ok t h (st t (i + 1)) i hi (st_lt (num_lt hi)) (Nat.le_refl _) w
  have hB : Hid (∀ i, i < num t → ∀ w, Calls Try.prog 18 #[.string t, .int .i64 (st t i : Nat)] w fun e w' => e = .returned (.bool true) ∧ Below w.heap.size w w') := fun i hi w => by
    have := bound_any t (st t i : Nat) w
    rwa [bnd_yes h (by omega)] at this
  have hS : Hid (∀ i, i < num t → ∀ k, st t i < k → k < st t (i + 1) → ∀ w, Calls Try.prog 12 #[.string t, .int .i64 (k : Nat)] w fun e w' => e = .returned (.tuple #[.int .i64 (st t i : Nat), .int .i64 0]) ∧ Below w.heap.size w w') :=
    fun i hi k h1 h2 w => start_ok t h k i hi (by omega) h2 w
  have hBk : Hid (∀ i k, st t i < k → k < st t (i + 1) → ∀ w, Calls Try.prog 18 #[.string t, .int .i64 (k : Nat)] w fun e w' => e = .returned (.bool false) ∧ Below w.heap.size w w') := fun i k h1 h2 w => by
    have := bound_any t (k : Nat) w
    rwa [bnd_no h1 h2] at this
  have hnl := num_le t
  clear h
  go_enter Try.func6, Try.ntmps6
  go_wp2_with fail
  refine (known_any _).mono ?_
  rintro e w1 ⟨rfl, B1⟩
  go_wp2_with fail
  refine (hs _).mono ?_
  rintro e w2 ⟨v, rfl, ⟨_, hc⟩, B2⟩
  have B12 := B1.trans (B2.mono B1.size)
  clear B1 B2 hs
  obtain ⟨a, cap, rfl, h2⟩ := hc.ex
  rw [cls_len]
  have h3 : Hid (∀ i, i < num t → ∀ W, Below w2.heap.size w2 W → ∃ b, a = some ⟨b, 0, none⟩ ∧ W.cell? ⟨b, i * 3, none⟩ = some (.int .i64 (st t i : Nat)) ∧ W.cell? ⟨b, i * 3 + 1, none⟩ = some (.int .i64 (st t (i + 1) : Nat))) := fun i hi W hW => by
    rcases h2 with h2 | ⟨b, ha, hbl, hcc⟩
    · have := cls_len t; rw [h2] at this; simp at this; omega
    · obtain ⟨c0, c1⟩ := cls_cells hcc hi
      exact ⟨b, ha, (hW.cell hbl).trans c0, (hW.cell hbl).trans c1⟩
  clear h2 hc
  go_wp2_with fail
  go_loopw [6, 7] (fun p i wr => ∃ k : Nat, k ≤ num t ∧ p = .int .i64 (st t k : Nat) ∧ i = .int .i64 k ∧ Below w2.heap.size w2 wr) (fun _ i _ => num t - (intOf i).toNat)
  case atStart => exact ⟨0, Nat.zero_le _, rfl, rfl, Below.refl _ _⟩
  case round =>
    obtain ⟨k, hk, rfl, rfl, hb⟩ := hrel
    by_cases hlt : k < num t
    · have hN' := hN.out k hlt
      have hP' := hP.out k hlt
      have hB' := hB.out k hlt
      have hS' : Hid _ := hS.out k hlt
      have hBk' : Hid _ := hBk.out k
      have hle := st_le t (k + 1)
      have hst := st_lt (num_lt hlt)
      obtain ⟨b, rfl, c0, c1⟩ := h3.out k hlt wr hb
      have h3' : Hid (∀ W, Below w2.heap.size w2 W → W.cell? ⟨b, k * 3 + 1, none⟩ = some (.int .i64 (st t (k + 1) : Nat))) := fun W hW => by
        obtain ⟨b', e, _, c⟩ := h3.out k hlt W hW
        cases e; exact c
      have hkn : k + 1 ≤ num t := hlt
      clear hN hP hB hS hBk h3 hend hk
      have hgoal : Hid (∀ q : Nat, q = st t (k + 1) → True) := fun _ _ => trivial
      clear hgoal
      generalize hp0 : st t k = p at *
      generalize hq0 : st t (k + 1) = q at *
      have hq : Hid (st t (k + 1) = q) := hq0
      clear hp0 hq0
      have f1 : ((p : Int) != p) = false := by simp
      have f2 : (p : Int) < q := by omega
      go_wp2_with fail
      refine (hN' _).mono ?_
      rintro e w3 ⟨rfl, B3⟩
      have D3 := hb.trans (B3.mono hb.size)
      have c1 := h3'.out _ D3
      clear c0 hN' B3
      go_wp2_with fail
      refine (hP' _).mono ?_
      rintro e w4 ⟨rfl, B4⟩
      have D4 := D3.trans (B4.mono D3.size)
      clear c1
      have c1 := h3'.out _ D4
      clear hP' B4
      go_wp2_with fail
      refine (eq_below (is_yes (q : Int) _)).mono ?_
      rintro e w5 ⟨rfl, B5⟩
      have D5 := D4.trans (B5.mono D4.size)
      clear c1
      have c1 := h3'.out _ D5
      clear B5
      go_wp2_with fail
      refine (eq_below (is_yes (p : Int) _)).mono ?_
      rintro e w6 ⟨rfl, B6⟩
      have D6 := D5.trans (B6.mono D5.size)
      clear c1 B6
      go_wp2_with fail
      refine (hB' _).mono ?_
      rintro e w7 ⟨rfl, B7⟩
      have D7 := D6.trans (B7.mono D6.size)
      clear hB' B7
      go_wp2_with fail
      clear hb D3 D4 D5 D6
      go_loopw [12] (fun j wr => ∃ m : Nat, p < m ∧ m ≤ q ∧ j = .int .i64 m ∧ Below w2.heap.size w2 wr) (fun j _ => q - (intOf j).toNat)
      case atStart => exact ⟨p + 1, by omega, by omega, by simp, D7⟩
      case round =>
        obtain ⟨m, hm1, hm2, rfl, hbm⟩ := hrel
        have c1 := h3'.out _ hbm
        by_cases hmq : m < q
        · have hS2 := hS'.out m hm1 hmq
          have hBk2 := hBk'.out m hm1 hmq
          have f3 : (m : Int) < q := by omega
          clear hS' hBk'
          go_wp2_with fail
          refine (hS2 _).mono ?_
          rintro e w8 ⟨rfl, B8⟩
          have D8 := hbm.trans (B8.mono hbm.size)
          go_wp2_with fail
          refine (hBk2 _).mono ?_
          rintro e w9 ⟨rfl, B9⟩
          have D9 := D8.trans (B9.mono D8.size)
          go_wp2_with fail
          refine (eq_below (is_yes (p : Int) _)).mono ?_
          rintro e wa ⟨rfl, Ba⟩
          have Da := D9.trans (Ba.mono D9.size)
          clear D8 D9 B8 B9 Ba
          go_wp2_with fail
          go_roundw
          case rel => exact ⟨m + 1, by omega, by omega, by simp, Da⟩
          case measure => simp [intOf]; omega
        · have f3 : ¬ (m : Int) < q := by omega
          clear hS' hBk'
          go_wp2_with fail
          go_roundw
          case rel => exact ⟨k + 1, hkn, by rw [hq.out], by simp, hbm⟩
          case measure => simp [intOf]; omega
    · have e1 : Hid (st t k = t.size) := by
        show st t k = t.size
        obtain rfl : k = num t := by omega
        exact num_end t
      have f3 : ¬ (k : Int) < num t := by omega
      generalize hp0 : st t k = p at *
      clear hp0
      have hend' := hend.out
      rw [← e1.out] at hend'
      have f1 : ((p : Int) == t.size) = true := by rw [← e1.out]; simp
      go_wp2_with fail
      refine (hend' _).mono ?_
      rintro e w3 ⟨rfl, B3⟩
      go_wp2_with fail
      go_ret
      have D3 := hb.trans (B3.mono hb.size)
      exact ⟨rfl, B12.trans (D3.mono B12.size)⟩

theorem walk (t : ByteArray) (w : World) : Calls Try.prog 6 #[.string t] w fun e w' => e = .returned (.bool true) ∧ Below w.heap.size w w' := by
  by_cases h : wrongI t = 0
  · by_cases hl : t.size ≤ 600
    · exact walk_ok t h hl w
    · exact walk_long t h (by omega) w
  · exact walk_no t h w

set_option maxRecDepth 100000 in
theorem lifted (os : Os) (started : os.Started) (H : Type) (enc : TypeId × Value → H) :
    ReturnsInHanded {} Try.checked os 6 .any (Rows.clusterWholeSpec.pre6 enc Try.prog Try.f6 Rows.clusterWholeRow.domain false) (Rows.clusterWholeSpec.post enc Try.prog Try.f6 false true false false) := by
  refine returnsInHanded_of_change (C := Try.checked) own started (by kernel_rfl) Try.func6
    (ChangeSpec.witness6 (enc := enc) (C := Try.checked) false ⟨#[], #[.string ByteArray.empty], []⟩ 8 (by kernel_rfl) (by kernel_rfl) (by kernel_rfl) (by kernel_rfl)) ?_
  intro W base args ds gs before hval0 hW hcnd _
  have hval : ∀ (j : Nat) t v, Try.f6.params[j]? = some t → args[j]? = some v → Value.okWide Try.prog W .any base t v := hval0
  have hW' := hW
  obtain ⟨p, q, hA0, hV, rfl, hfz, hnd⟩ := hW
  have hA : DataW.TrodAll enc Try.prog W 0 (fun _ => true) true Try.f6.params.toList args.toList ds p := hA0
  rw [Try.params6] at hA hval
  obtain ⟨v0, vs0, d0, ds0, p0, q0, hargs, rfl, rfl, h0, r0⟩ := trodAll_cons hA
  obtain ⟨rfl, rfl, rfl⟩ := trodAll_nil r0
  obtain rfl : args = #[v0] := by cases args; simp_all
  obtain ⟨rfl, rfl⟩ := trodVars_none hV
  obtain ⟨a0, rfl, rfl, rfl, w0⟩ := open_string Try.underlying9 (hval 0 9 v0 rfl rfl) h0
  clear hA0 hval0
  simp only [List.append_nil] at hW'
  refine (walk a0 W).mono fun e W' ⟨he, hg⟩ => ?_
  subst he
  exact ⟨_, rfl, _, _, _, [], [], [], hW', trodAll_mk1 (shut_bool Try.underlying4 _), (trodAll_cons_mk (shut_string Try.underlying9 w0) trodAll_mk0), rfl, hg.frame _, fun h => by cases h⟩

theorem over : Rows.clusterWholeRow.holds Try.pinned (OpenSpec.ofChange Rows.clusterWholeSpec) :=
  OpenClaim.holds_of_wide 6 Try.f6 rfl rfl rfl rfl rfl rfl rfl ⟨rfl, rfl, rfl, rfl, rfl⟩ rfl rfl rfl rfl rfl (by kernel_rfl) Try.func6 (by kernel_rfl)
    (of_decide_eq_true (by kernel_rfl)) (by unfold Func.isWrapper; first | (rw [if_pos (by decide +kernel)]; kernel_rfl) | (rw [if_neg (by decide +kernel)]; exact ⟨rfl, rfl⟩))
    (fun os started H enc _ => lifted os started H enc)

end Go.Proofs.Ytjmcfdmonckhmaa.clusterWhole
namespace Go.Proofs.Ytjmcfdmonckhmaa

theorem clusterWhole_holds : Rows.ClusterWholeSaid := clusterWhole.over

end Go.Proofs.Ytjmcfdmonckhmaa
