/-
  What is proved here: awake answers true, and changes nothing that was there.
-/
import Derived.Test.YtpippmbkdjcbeaaWalkH
namespace Go.Proofs.Ytpippmbkdjcbeaa
open Go.RowKit Go.Shelf

theorem Turns.to_below {t : Nat} {w W W' : World} (h : Turns (fun k => k = t) W W') (ht : w.heap.size ≤ t) (hb : Below w.heap.size w W) : Below w.heap.size w W' :=
  hb.trans (h.below hb.size (fun k e => by omega))

theorem pieces_any (t : Nat) (sv : Value) (rs : List (List UInt8)) (htot : tlen rs ≤ 4096) (hcnt : rs.length ≤ 4096) (w : World) (hT : TextAt t sv rs w) :
    Calls Try.prog 14 #[.pointer (some ⟨t, 0, none⟩)] w fun e w' => e = .returned (.int .i64 rs.length) ∧ Below w.heap.size w w' := pieces_text t sv rs htot hcnt w hT

def ab0 : List (List UInt8) := [[97, 98, 99, 100]]
def ab1 : List (List UInt8) := [[97, 98], [88, 89], [99, 100]]
def ab2 : List (List UInt8) := [[97], [100]]

set_option maxHeartbeats 1000000 in
set_option maxRecDepth 100000 in
theorem awake_any (w : World) : Calls Try.prog 16 #[] w fun e w' => e = .returned (.bool true) ∧ Below w.heap.size w w' := by
  have hnew := new_yes ⟨#[97, 98, 99, 100]⟩ (by decide) (by decide)
  have hr0 : runsOf (⟨#[97, 98, 99, 100]⟩ : ByteArray).data.toList = ab0 := by decide
  rw [hr0] at hnew
  have hi1 : insRuns ab0 (2 : Int).toNat (⟨#[88, 89]⟩ : ByteArray).data.toList = ab1 := by decide
  have hd1 : delRuns ab1 (1 : Int).toNat (4 : Int).toNat = ab2 := by decide
  have hf1 : (⟨ab1.flatten.toArray⟩ : ByteArray) = ⟨#[97, 98, 88, 89, 99, 100]⟩ := rfl
  have hf2 : (⟨ab2.flatten.toArray⟩ : ByteArray) = ⟨#[97, 100]⟩ := rfl
  go_enter Try.func16, Try.ntmps16
  go_wp2_with fail
  refine (hnew _).mono ?_
  rintro e w1 ⟨t, sv, rfl, hlt, hT, hb1⟩
  go_wp2_with fail
  refine (insert_yes t sv ab0 (by decide) (by decide) _ hT 2 ⟨#[88, 89]⟩ (by decide) (by decide) (by decide) (by decide) (by decide) (by decide)).mono ?_
  rw [hi1]
  rintro e w2 ⟨sv2, rfl, hT2, ht2⟩
  have hb2 := ht2.to_below hlt hb1
  go_wp2_with fail
  refine (whole_any t sv2 ab1 (by decide) (by decide) _ hT2).mono ?_
  rw [hf1]
  rintro e w3 ⟨rfl, hb3⟩
  have hT3 := hT2.below hb3
  have hb3' := hb2.trans (hb3.mono hb2.size)
  go_wp2_with fail
  refine (pieces_any t sv2 ab1 (by decide) (by decide) _ hT3).mono ?_
  rintro e w4 ⟨rfl, hb4⟩
  have hT4 := hT3.below hb4
  have hb4' := hb3'.trans (hb4.mono hb3'.size)
  have hl1 : ((ab1.length : Nat) : Int) = 3 := rfl
  rw [hl1]
  go_wp2_with fail
  refine (delete_yes t sv2 ab1 (by decide) (by decide) _ hT4 1 4 (by decide) (by decide) (by decide)).mono ?_
  rw [hd1]
  rintro e w5 ⟨sv5, rfl, hT5, ht5⟩
  have hb5 := ht5.to_below hlt hb4'
  go_wp2_with fail
  refine (whole_any t sv5 ab2 (by decide) (by decide) _ hT5).mono ?_
  rw [hf2]
  rintro e w6 ⟨rfl, hb6⟩
  have hT6 := hT5.below hb6
  have hb6' := hb5.trans (hb6.mono hb5.size)
  go_wp2_with fail
  refine (pieces_any t sv5 ab2 (by decide) (by decide) _ hT6).mono ?_
  rintro e w7 ⟨rfl, hb7⟩
  have hb7' := hb6'.trans (hb7.mono hb6'.size)
  have hl2 : ((ab2.length : Nat) : Int) = 2 := rfl
  rw [hl2]
  go_wp2_with fail
  go_ret
  exact ⟨rfl, hb7'⟩

end Go.Proofs.Ytpippmbkdjcbeaa
