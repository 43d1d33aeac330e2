/-
  What is proved here: PieceFull answers true at every input, with no condition: ErrFull is answered just if there would be more than 4,096 bytes, ErrRange just of a place out of the text.
-/
import Derived.Test.YtpippmbkdjcbeaaWalkI
import Derived.ProofKit
import Derived.OpenShut
namespace Go.Proofs.Ytpippmbkdjcbeaa.pieceFull
open Go.ChangeShapes Go.WideShapes Go.ChangeAt Go.RowKit

theorem own : ownKnob Try.prog.godebug = none := by kernel_rfl

theorem rep_eq (c : UInt8) : ∀ n, Lib.repeatL [c] n = List.replicate n c
  | 0 => rfl
  | n + 1 => by simp [Lib.repeatL, rep_eq c n, List.replicate_succ]

theorem may_rep (c : UInt8) (hc : stI (c.toNat : Int) = true) (n : Nat) : mayB (List.replicate n c) = true := by
  unfold mayB; rw [List.all_eq_true]; intro x hx; rw [(List.mem_replicate.1 hx).2]; exact hc

theorem tlen_rep (c : UInt8) (n : Nat) : tlen (runsOf (List.replicate n c)) = n := by
  unfold tlen runsOf
  cases n with
  | zero => simp
  | succ n => rw [if_neg (by simp [List.replicate_succ])]; simp

theorem runs_le (l : List UInt8) : (runsOf l).length ≤ 1 := by unfold runsOf; split <;> simp

theorem refuse_rep (c : UInt8) (hc : stI (c.toNat : Int) = true) (n k : Nat) : refuseI (List.replicate n c) k = if 4096 - k < n then 8 else 0 := by
  unfold refuseI; rw [if_neg (by rw [may_rep c hc]; decide)]; simp

/-- What Repeat answers of one byte. -/
def rp (c : UInt8) (n : Nat) : ByteArray := ⟨(List.replicate n c).toArray⟩
theorem rp_list (c : UInt8) (n : Nat) : (rp c n).data.toList = List.replicate n c := by simp [rp]
theorem rp_size (c : UInt8) (n : Nat) : (rp c n).size = n := by show (List.replicate n c).toArray.size = n; simp

theorem repeat_any (c : UInt8) (n : Nat) (ni : Int) (hni : ni = n) (hn : n ≤ 5000) (w : World) : Calls Try.prog 19 #[.string ⟨#[c]⟩, .int .i64 ni] w fun e w' => e = .returned (.string (rp c n)) ∧ Below w.heap.size w w' := by
  subst hni
  have h := Try.strings_Repeat ⟨#[c]⟩ n w (by omega) (by show 1 * n ≤ _; omega)
  have e1 : (⟨#[c]⟩ : ByteArray).data.toList = [c] := rfl
  rw [e1, rep_eq] at h
  exact h

set_option maxHeartbeats 1000000 in
theorem walk_out (n p m : Int) (h : n < 0 ∨ 4096 < n ∨ m < 0 ∨ 5000 < m) (w : World) :
    Calls Try.prog 5 #[.int .i64 n, .int .i64 p, .int .i64 m] w fun e w' => e = .returned (.bool true) ∧ Below w.heap.size w w' := by
  by_cases h1 : n < 0
  · go_enter Try.func5, Try.ntmps5
    go_wp2_with (go_at_call 16; refine (awake_any _).mono ?_; rintro e w1 ⟨rfl, hb⟩)
    go_ret
    exact ⟨rfl, hb⟩
  have d1 : decide (n < 0) = false := by simpa using h1
  by_cases h2 : 4096 < n
  · go_enter Try.func5, Try.ntmps5
    go_wp2_with (go_at_call 16; refine (awake_any _).mono ?_; rintro e w1 ⟨rfl, hb⟩)
    go_ret
    exact ⟨rfl, hb⟩
  have d2 : decide (4096 < n) = false := by simpa using h2
  by_cases h3 : m < 0
  · go_enter Try.func5, Try.ntmps5
    go_wp2_with (go_at_call 16; refine (awake_any _).mono ?_; rintro e w1 ⟨rfl, hb⟩)
    go_ret
    exact ⟨rfl, hb⟩
  have d3 : decide (m < 0) = false := by simpa using h3
  have h4 : 5000 < m := by omega
  go_enter Try.func5, Try.ntmps5
  go_wp2_with (go_at_call 16; refine (awake_any _).mono ?_; rintro e w1 ⟨rfl, hb⟩)
  go_ret
  exact ⟨rfl, hb⟩

set_option maxHeartbeats 1000000 in
set_option maxRecDepth 100000 in
theorem walk_in (n : Nat) (p : Int) (m : Nat) (hn : n ≤ 4096) (hm : m ≤ 5000) (w : World) :
    Calls Try.prog 5 #[.int .i64 n, .int .i64 p, .int .i64 m] w fun e w' => e = .returned (.bool true) ∧ Below w.heap.size w w' := by
  have d1 : decide ((n : Int) < 0) = false := by simp
  have d2 : decide (4096 < (n : Int)) = false := by simp; omega
  have d3 : decide ((m : Int) < 0) = false := by simp
  have d4 : decide (5000 < (m : Int)) = false := by simp; omega
  have hr0 : refuseI (rp 97 n).data.toList 0 = 0 := by rw [rp_list, refuse_rep 97 (by decide), if_neg (by omega)]
  have hnew := new_yes (rp 97 n) (by rw [rp_size]; unfold maxLen; omega) hr0
  rw [rp_list] at hnew
  have htl := tlen_rep 97 n
  have hcn := runs_le (List.replicate n 97)
  generalize runsOf (List.replicate n 97) = rs at *
  have hrf : refuseI (rp 98 m).data.toList (tlen rs) = if 4096 - n < m then 8 else 0 := by rw [rp_list, refuse_rep 98 (by decide), htl]
  have HT : Hid (tlen rs = n) := htl
  have hins : ∀ (t : Nat) (sv : Value) (W : World), TextAt t sv rs W → Calls Try.prog 9 #[.pointer (some ⟨t, 0, none⟩), .int .i64 p, .string (rp 98 m)] W fun e w' =>
      e = .returned (.int .i64 (if p < 0 ∨ (n : Int) < p then 5 else if 4096 < n + m then 8 else 0)) ∧ Turns (fun k => k = t) W w' := by
    intro t sv W hT
    have hms : (rp 98 m).size ≤ maxLen := by rw [rp_size]; unfold maxLen; omega
    by_cases hp : p < 0 ∨ (n : Int) < p
    · rw [if_pos hp]
      exact (insert_range t sv rs (by omega) (by omega) W hT p _ (by rw [htl]; exact hp)).mono (fun e w' h => ⟨h.1, (Turns.of_below h.2).mono (fun _ h => h.elim)⟩)
    · rw [if_neg hp]
      by_cases hf : 4096 < n + m
      · rw [if_pos hf]
        rw [if_pos (show 4096 - n < m by omega)] at hrf
        refine (insert_refused t sv rs (by omega) (by omega) W hT p _ hms (by omega) (by omega) (by rw [hrf]; decide)).mono (fun e w' h => ⟨?_, (Turns.of_below h.2).mono (fun _ h => h.elim)⟩)
        rw [h.1, hrf]
      · rw [if_neg hf]
        rw [if_neg (show ¬ 4096 - n < m by omega)] at hrf
        by_cases h0 : m = 0
        · exact (insert_none t sv rs (by omega) (by omega) W hT p _ hms (by omega) (by omega) (by rw [rp_list, h0]; rfl)).mono (fun e w' h => ⟨h.1, (Turns.of_below h.2).mono (fun _ h => h.elim)⟩)
        · refine (insert_yes t sv rs (by omega) (by omega) W hT p _ hms (by omega) (by omega) hrf (by rw [rp_list]; cases m with | zero => exact absurd rfl h0 | succ m => simp [List.replicate_succ]) (by rw [rp_size]; omega)).mono ?_
          rintro e w' ⟨_, he, _, ht⟩
          exact ⟨he, ht⟩
  clear hrf htl hr0 HT
  by_cases hp0 : p < 0
  · rw [if_pos (.inl hp0)] at hins
    go_enter Try.func5, Try.ntmps5
    go_wp2_with fail
    refine (awake_any _).mono ?_
    rintro e w1 ⟨rfl, hb1⟩
    go_wp2_with fail
    refine (repeat_any 97 n _ rfl (by omega) _).mono ?_
    rintro e w2 ⟨rfl, hb2⟩
    have hb2' := hb1.trans (hb2.mono hb1.size)
    go_wp2_with fail
    refine (hnew _).mono ?_
    rintro e w3 ⟨t, sv, rfl, hlt, hT, hb3⟩
    have hb3' := hb2'.trans (hb3.mono hb2'.size)
    go_wp2_with fail
    refine (repeat_any 98 m _ rfl (by omega) _).mono ?_
    rintro e w4 ⟨rfl, hb4⟩
    have hb4' := hb3'.trans (hb4.mono hb3'.size)
    go_wp2_with fail
    refine (hins t sv _ (hT.below hb4)).mono ?_
    rintro e w5 ⟨rfl, ht5⟩
    go_wp2_with fail
    go_ret
    exact ⟨rfl, ht5.to_below (Nat.le_trans hb2'.size hlt) hb4'⟩
  have d5 : decide (p < 0) = false := by simpa using hp0
  by_cases hp1 : (n : Int) < p
  · rw [if_pos (.inr hp1)] at hins
    go_enter Try.func5, Try.ntmps5
    go_wp2_with fail
    refine (awake_any _).mono ?_
    rintro e w1 ⟨rfl, hb1⟩
    go_wp2_with fail
    refine (repeat_any 97 n _ rfl (by omega) _).mono ?_
    rintro e w2 ⟨rfl, hb2⟩
    have hb2' := hb1.trans (hb2.mono hb1.size)
    go_wp2_with fail
    refine (hnew _).mono ?_
    rintro e w3 ⟨t, sv, rfl, hlt, hT, hb3⟩
    have hb3' := hb2'.trans (hb3.mono hb2'.size)
    go_wp2_with fail
    refine (repeat_any 98 m _ rfl (by omega) _).mono ?_
    rintro e w4 ⟨rfl, hb4⟩
    have hb4' := hb3'.trans (hb4.mono hb3'.size)
    go_wp2_with fail
    refine (hins t sv _ (hT.below hb4)).mono ?_
    rintro e w5 ⟨rfl, ht5⟩
    go_wp2_with fail
    go_ret
    exact ⟨rfl, ht5.to_below (Nat.le_trans hb2'.size hlt) hb4'⟩
  have d6 : decide ((n : Int) < p) = false := by simpa using hp1
  rw [if_neg (by omega)] at hins
  by_cases hf : 4096 < n + m
  · rw [if_pos hf] at hins
    have d7 : decide (4096 < (n : Int) + (m : Int)) = true := by simp; omega
    go_enter Try.func5, Try.ntmps5
    go_wp2_with fail
    refine (awake_any _).mono ?_
    rintro e w1 ⟨rfl, hb1⟩
    go_wp2_with fail
    refine (repeat_any 97 n _ rfl (by omega) _).mono ?_
    rintro e w2 ⟨rfl, hb2⟩
    have hb2' := hb1.trans (hb2.mono hb1.size)
    go_wp2_with fail
    refine (hnew _).mono ?_
    rintro e w3 ⟨t, sv, rfl, hlt, hT, hb3⟩
    have hb3' := hb2'.trans (hb3.mono hb2'.size)
    go_wp2_with fail
    refine (repeat_any 98 m _ rfl (by omega) _).mono ?_
    rintro e w4 ⟨rfl, hb4⟩
    have hb4' := hb3'.trans (hb4.mono hb3'.size)
    go_wp2_with fail
    refine (hins t sv _ (hT.below hb4)).mono ?_
    rintro e w5 ⟨rfl, ht5⟩
    go_wp2_with fail
    go_ret
    exact ⟨rfl, ht5.to_below (Nat.le_trans hb2'.size hlt) hb4'⟩
  rw [if_neg hf] at hins
  have d7 : decide (4096 < (n : Int) + (m : Int)) = false := by simp; omega
  go_enter Try.func5, Try.ntmps5
  go_wp2_with fail
  refine (awake_any _).mono ?_
  rintro e w1 ⟨rfl, hb1⟩
  go_wp2_with fail
  refine (repeat_any 97 n _ rfl (by omega) _).mono ?_
  rintro e w2 ⟨rfl, hb2⟩
  have hb2' := hb1.trans (hb2.mono hb1.size)
  go_wp2_with fail
  refine (hnew _).mono ?_
  rintro e w3 ⟨t, sv, rfl, hlt, hT, hb3⟩
  have hb3' := hb2'.trans (hb3.mono hb2'.size)
  go_wp2_with fail
  refine (repeat_any 98 m _ rfl (by omega) _).mono ?_
  rintro e w4 ⟨rfl, hb4⟩
  have hb4' := hb3'.trans (hb4.mono hb3'.size)
  go_wp2_with fail
  refine (hins t sv _ (hT.below hb4)).mono ?_
  rintro e w5 ⟨rfl, ht5⟩
  go_wp2_with fail
  go_ret
  exact ⟨rfl, ht5.to_below (Nat.le_trans hb2'.size hlt) hb4'⟩

theorem walk (a0 a1 a2 : Int) (w : World) :
    Calls Try.prog 5 #[.int .i64 a0, .int .i64 a1, .int .i64 a2] w fun e w' => e = .returned (.bool true) ∧ Below w.heap.size w w' := by
  by_cases h : a0 < 0 ∨ 4096 < a0 ∨ a2 < 0 ∨ 5000 < a2
  · exact walk_out a0 a1 a2 h w
  · obtain ⟨n, rfl⟩ : ∃ n : Nat, a0 = n := ⟨a0.toNat, by omega⟩
    obtain ⟨m, rfl⟩ : ∃ m : Nat, a2 = m := ⟨a2.toNat, by omega⟩
    exact walk_in n a1 m (by omega) (by omega) w

set_option maxRecDepth 100000 in
theorem lifted (os : Os) (started : os.Started) (H : Type) (enc : TypeId × Value → H) :
    ReturnsInHanded {} Try.checked os 5 .any (Rows.pieceFullSpec.pre6 enc Try.prog Try.f5 Rows.pieceFullRow.domain false) (Rows.pieceFullSpec.post enc Try.prog Try.f5 false true false false) := by
  refine returnsInHanded_of_change (C := Try.checked) own started (by kernel_rfl) Try.func5
    (ChangeSpec.witness6 (enc := enc) (C := Try.checked) false ⟨#[], #[.int .i64 0, .int .i64 0, .int .i64 0], []⟩ 8 (by kernel_rfl) (by kernel_rfl) (by kernel_rfl) (by kernel_rfl)) ?_
  intro W base args ds gs before hval0 hW hcnd _
  have hval : ∀ (j : Nat) t v, Try.f5.params[j]? = some t → args[j]? = some v → Value.okWide Try.prog W .any base t v := hval0
  have hW' := hW
  obtain ⟨p, q, hA0, hV, rfl, hfz, hnd⟩ := hW
  have hA : DataW.TrodAll enc Try.prog W 0 (fun _ => true) true Try.f5.params.toList args.toList ds p := hA0
  rw [Try.params5] at hA hval
  obtain ⟨v0, vs0, d0, ds0, p0, q0, hargs, rfl, rfl, h0, r0⟩ := trodAll_cons hA
  obtain ⟨v1, vs1, d1, ds1, p1, q1, rfl, rfl, rfl, h1, r1⟩ := trodAll_cons r0
  obtain ⟨v2, vs2, d2, ds2, p2, q2, rfl, rfl, rfl, h2, r2⟩ := trodAll_cons r1
  obtain ⟨rfl, rfl, rfl⟩ := trodAll_nil r2
  obtain rfl : args = #[v0, v1, v2] := by cases args; simp_all
  obtain ⟨rfl, rfl⟩ := trodVars_none hV
  obtain ⟨a0, rfl, rfl, rfl, w0⟩ := open_int Try.underlying3 (hval 0 3 v0 rfl rfl) h0
  obtain ⟨a1, rfl, rfl, rfl, w1⟩ := open_int Try.underlying3 (hval 1 3 v1 rfl rfl) h1
  obtain ⟨a2, rfl, rfl, rfl, w2⟩ := open_int Try.underlying3 (hval 2 3 v2 rfl rfl) h2
  clear hA0 hval0
  simp only [List.append_nil] at hW'
  refine (walk a0 a1 a2 W).mono fun e W' ⟨he, hg⟩ => ?_
  subst he
  exact ⟨_, rfl, _, _, _, [], [], [], hW', trodAll_mk1 (shut_bool Try.underlying4 _), (trodAll_cons_mk (shut_int Try.underlying3 w0) (trodAll_cons_mk (shut_int Try.underlying3 w1) (trodAll_cons_mk (shut_int Try.underlying3 w2) trodAll_mk0))), rfl, hg.frame _, fun h => by cases h⟩

theorem over : Rows.pieceFullRow.holds Try.pinned (OpenSpec.ofChange Rows.pieceFullSpec) :=
  OpenClaim.holds_of_wide 5 Try.f5 rfl rfl rfl rfl rfl rfl rfl ⟨rfl, rfl, rfl, rfl, rfl⟩ rfl rfl rfl rfl rfl (by kernel_rfl) Try.func5 (by kernel_rfl)
    (of_decide_eq_true (by kernel_rfl)) (by unfold Func.isWrapper; first | (rw [if_pos (by decide +kernel)]; kernel_rfl) | (rw [if_neg (by decide +kernel)]; exact ⟨rfl, rfl⟩))
    (fun os started H enc _ => lifted os started H enc)

end Go.Proofs.Ytpippmbkdjcbeaa.pieceFull
namespace Go.Proofs.Ytpippmbkdjcbeaa

theorem pieceFull_holds : Rows.PieceFullSaid := pieceFull.over

end Go.Proofs.Ytpippmbkdjcbeaa
