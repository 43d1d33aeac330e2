/-
  What is proved here: bytes that were put in are read where they were put, and a Delete of them leaves what was there.
-/
import Derived.Test.YtpippmbkdjcbeaaWalkL
namespace Go.Proofs.Ytpippmbkdjcbeaa
open Go.RowKit Go.Shelf

theorem back_glue {l l' : List UInt8} {put : ByteArray} {k : Nat} (h : l' = l.take k ++ put.data.toList ++ l.drop k) :
    (⟨l'.toArray⟩ : ByteArray) = (⟨l.toArray⟩ : ByteArray).extract 0 k ++ put ++ (⟨l.toArray⟩ : ByteArray).extract k (⟨l.toArray⟩ : ByteArray).size := by
  apply ByteArray.ext
  apply Array.toList_inj.1
  have hsz : (⟨l.toArray⟩ : ByteArray).size = l.length := rfl
  rw [hsz]
  simp only [ByteArray.data_append, ByteArray.data_extract, Array.toList_append, Array.toList_extract, List.extract_eq_take_drop, List.drop_zero, Nat.sub_zero]
  rw [h, List.take_of_length_le (l := List.drop k l) (by simp)]

theorem back_slice {l l' : List UInt8} {put : ByteArray} {k : Nat} (h : l' = l.take k ++ put.data.toList ++ l.drop k) (hk : k ≤ l.length) :
    (⟨((l'.take (k + put.size)).drop k).toArray⟩ : ByteArray) = put := by
  have hs : put.data.toList.length = put.size := rfl
  have ht : (l.take k).length = k := by simp; omega
  apply ByteArray.ext
  apply Array.toList_inj.1
  rw [h, List.take_append_of_le_length (by simp only [List.length_append, ht, hs]; omega), List.take_of_length_le (by simp only [List.length_append, ht, hs]; omega)]
  rw [List.drop_append_of_le_length (by omega), List.drop_of_length_le (by omega)]
  simp

theorem back_del {l l' : List UInt8} {put : ByteArray} {k : Nat} (h : l' = l.take k ++ put.data.toList ++ l.drop k) (hk : k ≤ l.length) :
    l'.take k ++ l'.drop (k + put.size) = l := by
  have hs : put.data.toList.length = put.size := rfl
  have ht : (l.take k).length = k := by simp; omega
  have hh : l'.drop (k + put.size) = l.drop k := by
    rw [h]
    have : k + put.size = (l.take k ++ put.data.toList).length := by simp only [List.length_append, ht, hs]
    rw [this, List.drop_left]
  rw [hh, h, List.append_assoc, List.take_append_of_le_length (by omega), List.take_of_length_le (by omega)]
  exact List.take_append_drop k l

theorem slice_put (t : Nat) (sv : Value) (rs' : List (List UInt8)) (hg : Good rs') (l : List UInt8) (p : Int) (put : ByteArray) (h0 : 0 ≤ p) (h1 : p ≤ (l.length : Int))
    (hfl : rs'.flatten = l.take p.toNat ++ put.data.toList ++ l.drop p.toNat) (w : World) (hT : TextAt t sv rs' w) :
    Calls Try.prog 7 #[.pointer (some ⟨t, 0, none⟩), .int .i64 p, .int .i64 (p + (put.size : Int))] w fun e w' => e = .returned (.tuple #[.string put, .int .i64 0]) ∧ Below w.heap.size w w' := by
  have hs : put.data.toList.length = put.size := rfl
  have hl : tlen rs' = l.length + put.size := by
    unfold tlen
    rw [hfl]; simp only [List.length_append, List.length_take, List.length_drop]; omega
  refine (slice_yes t sv rs' hg.tot hg.cnt w hT p (p + (put.size : Int)) h0 (by omega) (by omega)).mono ?_
  rintro e w' ⟨rfl, hb⟩
  have := back_slice (k := p.toNat) hfl (by omega)
  rw [show (p + (put.size : Int)).toNat = p.toNat + put.size by omega, this]
  exact ⟨rfl, hb⟩

theorem delete_put (t : Nat) (sv : Value) (rs' : List (List UInt8)) (hg : Good rs') (l : List UInt8) (p : Int) (put : ByteArray) (h0 : 0 ≤ p) (h1 : p ≤ (l.length : Int))
    (hfl : rs'.flatten = l.take p.toNat ++ put.data.toList ++ l.drop p.toNat) (w : World) (hT : TextAt t sv rs' w) :
    Calls Try.prog 10 #[.pointer (some ⟨t, 0, none⟩), .int .i64 p, .int .i64 (put.size : Int)] w fun e w' => ∃ (sv' : Value) (rs : List (List UInt8)), e = .returned (.int .i64 0) ∧ TextAt t sv' rs w' ∧ Good rs ∧ rs.flatten = l ∧ Turns (fun k => k = t) w w' := by
  have hs : put.data.toList.length = put.size := rfl
  have hl : tlen rs' = l.length + put.size := by
    unfold tlen
    rw [hfl]; simp only [List.length_append, List.length_take, List.length_drop]; omega
  refine (delete_yes t sv rs' hg.tot hg.cnt w hT p (put.size : Int) h0 (by omega) (by omega)).mono ?_
  rintro e w' ⟨sv', rfl, hT', ht⟩
  refine ⟨sv', _, rfl, hT', del_good hg _ _, ?_, ht⟩
  rw [del_flat, show ((put.size : Int)).toNat = put.size by omega]
  exact back_del hfl (by omega)

end Go.Proofs.Ytpippmbkdjcbeaa
