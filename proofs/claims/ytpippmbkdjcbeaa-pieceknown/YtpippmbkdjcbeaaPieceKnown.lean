/-
  What is proved here: PieceKnown answers true: the chapter's examples are answered as it says; there is no input and no condition.
-/
import Derived.Test.YtpippmbkdjcbeaaWalkK
import Derived.ProofKit
import Derived.OpenShut
namespace Go.Proofs.Ytpippmbkdjcbeaa.pieceKnown
open Go.ChangeShapes Go.WideShapes Go.ChangeAt Go.RowKit

theorem own : ownKnob Try.prog.godebug = none := by kernel_rfl

theorem rep_eq (c : UInt8) : ∀ n, Lib.repeatL [c] n = List.replicate n c
  | 0 => rfl
  | n + 1 => by simp [Lib.repeatL, rep_eq c n, List.replicate_succ]

/-- What Repeat answers of one byte. -/
def rp (c : UInt8) (n : Nat) : ByteArray := ⟨(List.replicate n c).toArray⟩
theorem rp_list (c : UInt8) (n : Nat) : (rp c n).data.toList = List.replicate n c := by simp [rp]
theorem rp_size (c : UInt8) (n : Nat) : (rp c n).size = n := by show (List.replicate n c).toArray.size = n; simp
theorem rp_no (n : Nat) (hn : 4096 < n) : refuseI (rp 97 n).data.toList 0 = 8 := by
  have hm : mayB (List.replicate n 97) = true := by
    unfold mayB; rw [List.all_eq_true]; intro x hx; rw [(List.mem_replicate.1 hx).2]; decide
  rw [rp_list]; unfold refuseI
  rw [if_neg (by rw [hm]; decide), if_pos (by rw [List.length_replicate]; omega)]

/-- 4,097 letters. -/
def big : ByteArray := rp 97 4097
theorem big_size : big.size = 4097 := rp_size 97 4097
theorem big_no : refuseI big.data.toList 0 = 8 := rp_no 4097 (by omega)

theorem repeat_big (w : World) : Calls Try.prog 19 #[.string ⟨#[97]⟩, .int .i64 4097] w fun e w' => e = .returned (.string big) ∧ Below w.heap.size w w' := by
  have h := Try.strings_Repeat ⟨#[97]⟩ 4097 w (by omega) (by show 1 * 4097 ≤ _; omega)
  have e1 : (⟨#[97]⟩ : ByteArray).data.toList = [97] := rfl
  rw [e1, rep_eq] at h
  exact h

def ad : List (List UInt8) := [[97, 100]]

set_option maxHeartbeats 1000000 in
set_option maxRecDepth 100000 in
theorem walk (w : World) : Calls Try.prog 6 #[] w fun e w' => e = .returned (.bool true) ∧ Below w.heap.size w w' := by
  have hnew := new_yes ⟨#[97, 100]⟩ (by decide) (by decide)
  have hr0 : runsOf (⟨#[97, 100]⟩ : ByteArray).data.toList = ad := by decide
  rw [hr0] at hnew
  have hnb := new_no big (by rw [big_size]; unfold maxLen; omega) (by rw [big_no]; decide)
  rw [big_no] at hnb
  have hf0 : fI (100 : Int).toNat.toUInt8 (parts 0 0 (tlen ad) ad) = 1 := by decide
  have hf2 : fI (100 : Int).toNat.toUInt8 (parts 0 2 (tlen ad) ad) = -1 := by decide
  have hcn : ((cB 97 ad.flatten : Nat) : Int) = 1 := by decide
  have hm1 : mayB (⟨#[97, 31, 1, 10, 9]⟩ : ByteArray).data.toList = true := by decide
  have hm2 : mayB (⟨#[127]⟩ : ByteArray).data.toList = false := by decide
  have hrf : refuseI (⟨#[7]⟩ : ByteArray).data.toList (tlen ad) = 4 := by decide
  go_enter Try.func6, Try.ntmps6
  go_wp2_with fail
  refine (hnew _).mono ?_
  rintro e w1 ⟨t, sv, rfl, hlt, hT1, B1⟩
  go_wp2_with fail
  refine (slice_range t sv ad (by decide) (by decide) _ hT1 2 1 (by decide)).mono ?_
  rintro e w2 ⟨rfl, q2⟩
  have hT2 := hT1.below q2
  have B2 := B1.trans (q2.mono B1.size)
  go_wp2_with fail
  refine (byte_range t sv ad (by decide) (by decide) 2 (by decide) (by decide) _ hT2).mono ?_
  rintro e w3 ⟨rfl, q3⟩
  have hT3 := hT2.below q3
  have B3 := B2.trans (q3.mono B2.size)
  go_wp2_with fail
  refine (repeat_big _).mono ?_
  rintro e w4 ⟨rfl, q4⟩
  have hT4 := hT3.below q4
  have B4 := B3.trans (q4.mono B3.size)
  go_wp2_with fail
  refine (hnb _).mono ?_
  rintro e w' ⟨rfl, hww⟩
  subst w'
  go_wp2_with fail
  refine (insert_range t sv ad (by decide) (by decide) _ hT4 3 ⟨#[120]⟩ (by decide)).mono ?_
  rintro e w5 ⟨rfl, q5⟩
  have hT5 := hT4.below q5
  have B5 := B4.trans (q5.mono B4.size)
  go_wp2_with fail
  refine (insert_refused t sv ad (by decide) (by decide) _ hT5 0 ⟨#[7]⟩ (by decide) (by decide) (by decide) (by rw [hrf]; decide)).mono ?_
  rw [hrf]
  rintro e w6 ⟨rfl, q6⟩
  have hT6 := hT5.below q6
  have B6 := B5.trans (q6.mono B5.size)
  go_wp2_with fail
  refine (delete_range t sv ad (by decide) (by decide) _ hT6 1 2 (by decide) (by decide) (by decide)).mono ?_
  rintro e w7 ⟨rfl, q7⟩
  have hT7 := hT6.below q7
  have B7 := B6.trans (q7.mono B6.size)
  go_wp2_with fail
  refine (awake_any _).mono ?_
  rintro e w8 ⟨rfl, q8⟩
  have hT8 := hT7.below q8
  have B8 := B7.trans (q8.mono B7.size)
  go_wp2_with fail
  refine (find_text t sv ad (by decide) (by decide) 100 0 0 (by decide) (by decide) _ hT8).mono ?_
  rw [hf0]
  rintro e w9 ⟨rfl, q9⟩
  have hT9 := hT8.below q9
  have B9 := B8.trans (q9.mono B8.size)
  go_wp2_with fail
  refine (find_text t sv ad (by decide) (by decide) 100 2 2 (by decide) (by decide) _ hT9).mono ?_
  rw [hf2]
  rintro e w10 ⟨rfl, q10⟩
  have hT10 := hT9.below q10
  have B10 := B9.trans (q10.mono B9.size)
  go_wp2_with fail
  refine (count_text t sv ad (by decide) (by decide) 97 _ hT10).mono ?_
  rw [hcn]
  rintro e w11 ⟨rfl, q11⟩
  have B11 := B10.trans (q11.mono B10.size)
  go_wp2_with fail
  refine (may_any ⟨#[97, 31, 1, 10, 9]⟩ (by decide) _).mono ?_
  rw [hm1]
  rintro e w' ⟨rfl, hww⟩
  subst w'
  go_wp2_with fail
  refine (may_any ⟨#[127]⟩ (by decide) _).mono ?_
  rw [hm2]
  rintro e w' ⟨rfl, hww⟩
  subst w'
  go_wp2_with fail
  go_ret
  exact ⟨rfl, B11⟩

set_option maxRecDepth 100000 in
theorem lifted (os : Os) (started : os.Started) (H : Type) (enc : TypeId × Value → H) :
    ReturnsInHanded {} Try.checked os 6 .any (Rows.pieceKnownSpec.pre6 enc Try.prog Try.f6 Rows.pieceKnownRow.domain false) (Rows.pieceKnownSpec.post enc Try.prog Try.f6 false true false false) := by
  refine returnsInHanded_of_change (C := Try.checked) own started (by kernel_rfl) Try.func6
    (ChangeSpec.witness6 (enc := enc) (C := Try.checked) false ⟨#[], #[], []⟩ 8 (by kernel_rfl) (by kernel_rfl) (by kernel_rfl) (by kernel_rfl)) ?_
  intro W base args ds gs before hval0 hW hcnd _
  have hval : ∀ (j : Nat) t v, Try.f6.params[j]? = some t → args[j]? = some v → Value.okWide Try.prog W .any base t v := hval0
  have hW' := hW
  obtain ⟨p, q, hA0, hV, rfl, hfz, hnd⟩ := hW
  have hA : DataW.TrodAll enc Try.prog W 0 (fun _ => true) true Try.f6.params.toList args.toList ds p := hA0
  rw [Try.params6] at hA hval
  obtain ⟨hargs, rfl, rfl⟩ := trodAll_nil hA
  obtain rfl : args = #[] := by cases args; simp_all
  obtain ⟨rfl, rfl⟩ := trodVars_none hV
  clear hA0 hval0
  simp only [List.append_nil] at hW'
  refine (walk W).mono fun e W' ⟨he, hg⟩ => ?_
  subst he
  exact ⟨_, rfl, _, _, _, [], [], [], hW', trodAll_mk1 (shut_bool Try.underlying4 _), trodAll_mk0, rfl, hg.frame _, fun h => by cases h⟩

theorem over : Rows.pieceKnownRow.holds Try.pinned (OpenSpec.ofChange Rows.pieceKnownSpec) :=
  OpenClaim.holds_of_wide 6 Try.f6 rfl rfl rfl rfl rfl rfl rfl ⟨rfl, rfl, rfl, rfl, rfl⟩ rfl rfl rfl rfl rfl (by kernel_rfl) Try.func6 (by kernel_rfl)
    (of_decide_eq_true (by kernel_rfl)) (by unfold Func.isWrapper; first | (rw [if_pos (by decide +kernel)]; kernel_rfl) | (rw [if_neg (by decide +kernel)]; exact ⟨rfl, rfl⟩))
    (fun os started H enc _ => lifted os started H enc)

end Go.Proofs.Ytpippmbkdjcbeaa.pieceKnown
namespace Go.Proofs.Ytpippmbkdjcbeaa

theorem pieceKnown_holds : Rows.PieceKnownSaid := pieceKnown.over

end Go.Proofs.Ytpippmbkdjcbeaa
