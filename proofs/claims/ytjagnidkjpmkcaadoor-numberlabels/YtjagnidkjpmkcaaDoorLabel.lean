/-
  What is proved here: what label and Label tell of any level and number.
-/
import Derived.Test.YtjagnidkjpmkcaaDoorRoman
namespace Go.Proofs.YtjagnidkjpmkcaaDoor
open Go.RowKit Go.Shelf

theorem g10 : Tryd.prog.globalNamed "internal/strconv.uint64pow10" = some 0 := by kernel_rfl

/-- The table of tens, in memory. -/
structure Tab (w : World) : Prop where
  tab : Lib.TabIs Tryd.prog w "internal/strconv.uint64pow10" .u64 Lib.pow10Tab
  lt : 0 < w.heap.size

theorem Tab.below {w w' : World} (h : Tab w) (hb : Below w.heap.size w w') : Tab w' := by
  refine ⟨?_, Nat.lt_of_lt_of_le h.lt hb.size⟩
  have := h.tab
  unfold Lib.TabIs World.var? at this ⊢
  rw [g10] at this ⊢
  simp only [Option.bind_some] at this ⊢
  rw [hb.block 0 h.lt]
  exact this

theorem below_grow (w : World) (k : Nat) (os : Array Obj) : Below w.heap.size w (Sort.grow (w.drewN k) os) :=
  ⟨rfl, rfl, rfl, by show w.heap.size ≤ (w.heap ++ os).size; simp, fun j hj => by show (w.heap ++ os)[j]? = _; rw [Array.getElem?_append_left hj]⟩

theorem str_add (a : List UInt8) (c : UInt8) : (⟨a.toArray⟩ : ByteArray) ++ ⟨#[c]⟩ = ⟨(a ++ [c]).toArray⟩ := by
  apply ByteArray.ext
  simp

theorem itoa_nat (n : Nat) : Lib.itoa (n : Int) = Lib.decDigits n := by unfold Lib.itoa; rw [if_neg (by omega)]; rfl

theorem dec_len (u : Nat) : (Lib.decDigits u).length ≤ u + 1 := by
  induction u using Nat.strongRecOn with
  | ind u ih =>
    rw [Lib.decDigits]
    by_cases h : u < 10
    · rw [dif_pos h]; simp
    · rw [dif_neg h]
      have := ih (u / 10) (by omega)
      simp only [List.length_append, List.length_singleton]
      omega

theorem rom_len : ∀ (r : List (List UInt8 × Nat)) (n : Nat), (∀ x ∈ r, 0 < x.2 ∧ x.1.length ≤ 2) → (rom r n).length ≤ 2 * n
  | [], _, _ => by simp [rom]
  | (s, v) :: r, n, h => by
    obtain ⟨h1, h2⟩ := h (s, v) (by simp)
    have ih := rom_len r (n % v) (fun x hx => h x (by simp [hx]))
    simp only [rom, List.length_append]
    have e : ((List.replicate (n / v) s).flatten).length = (n / v) * s.length := by simp
    rw [e]
    simp only at h1 h2
    have e2 : (n / v) * s.length ≤ (n / v) * 2 := Nat.mul_le_mul_left _ h2
    have e3 : n / v ≤ v * (n / v) := Nat.le_mul_of_pos_left _ h1
    have e4 := Nat.div_add_mod n v
    omega

theorem roman_len (n : Nat) : (romanN n).length ≤ 2 * n := rom_len romT n (by decide)

set_option maxHeartbeats 1000000 in
set_option maxRecDepth 100000 in
theorem label_any (lv n : Nat) (hl : lv ≤ 3) (hn : n ≤ 3999) (w : World) (ht : Tab w) :
    Calls Tryd.prog 23 #[.int .i64 lv, .int .i64 n] w fun e w' => e = .returned (.string ⟨(labelN lv n).toArray⟩) ∧ Below w.heap.size w w' := by
  have hI := Tryd.strconv_Itoa (n : Int) (by omega) (by omega) w ht.tab
  have hL := letters_any n hn w
  have hR := roman_any n hn w
  rw [itoa_nat] at hI
  have l1 : ¬ (9223372036854775807 < (Lib.decDigits n).length + 1) := by have := dec_len n; omega
  have l2 : ¬ (9223372036854775807 < (lettersN n).length + 1) := by have := lettersN_len n; omega
  have l3 : ¬ (9223372036854775807 < (romanN n).length + 1) := by have := roman_len n; omega
  have h4 : lv = 0 ∨ lv = 1 ∨ lv = 2 ∨ lv = 3 := by omega
  rcases h4 with rfl | rfl | rfl | rfl
  · go_enter Tryd.func23, Tryd.ntmps23
    go_wp2_with (go_at_call 31; refine hI.mono ?_; rintro e w' ⟨rfl, k, os, rfl⟩)
    go_ret
    exact ⟨congrArg (fun x => Ending.returned (Value.string x)) (str_add _ 46), below_grow w k os⟩
  · go_enter Tryd.func23, Tryd.ntmps23
    go_wp2_with (go_at_call 32; refine hL.mono ?_; rintro e w' ⟨rfl, hb⟩)
    go_ret
    exact ⟨congrArg (fun x => Ending.returned (Value.string x)) (str_add _ 41), hb⟩
  · go_enter Tryd.func23, Tryd.ntmps23
    go_wp2_with (go_at_call 33; refine hR.mono ?_; rintro e w' ⟨rfl, hb⟩)
    go_ret
    exact ⟨congrArg (fun x => Ending.returned (Value.string x)) (str_add _ 46), hb⟩
  · go_enter Tryd.func23, Tryd.ntmps23
    go_wp2_with fail
    go_ret
    exact ⟨rfl, Below.refl _ _⟩

def labelE (l n : Int) : Int := fitsE l n
def labelS (l n : Int) : List UInt8 := if fitsE l n = 0 then labelN l.toNat n.toNat else []

theorem Label_no (l n : Int) (h : fitsE l n ≠ 0) (w : World) :
    Calls Tryd.prog 9 #[.int .i64 l, .int .i64 n] w fun e w' => e = .returned (.tuple #[.string ⟨#[]⟩, .int .i64 (fitsE l n)]) ∧ w' = w := by
  cases hv : isLv l
  · have e0 : fitsE l n = 2 := by unfold fitsE; rw [hv]; rfl
    rw [e0]
    go_enter Tryd.func9, Tryd.ntmps9
    go_wp2_with (go_at_call 22; refine (isLevel_any _ _).mono ?_; rw [hv]; rintro e w' ⟨rfl, rfl⟩)
    go_ret2
    exact ⟨rfl, rfl⟩
  · have hr : ¬ (1 ≤ n ∧ n ≤ 3999) := fun h' => h (by unfold fitsE; rw [hv, if_pos h']; rfl)
    have e0 : fitsE l n = 5 := by unfold fitsE; rw [hv, if_neg hr]; rfl
    rw [e0]
    by_cases h1 : n < 1
    · go_enter Tryd.func9, Tryd.ntmps9
      go_wp2_with (go_at_call 22; refine (isLevel_any _ _).mono ?_; rw [hv]; rintro e w' ⟨rfl, rfl⟩)
      go_ret2
      exact ⟨rfl, rfl⟩
    · have h2 : 3999 < n := by omega
      go_enter Tryd.func9, Tryd.ntmps9
      go_wp2_with (go_at_call 22; refine (isLevel_any _ _).mono ?_; rw [hv]; rintro e w' ⟨rfl, rfl⟩)
      go_ret2
      exact ⟨rfl, rfl⟩

theorem fits_yes {l n : Int} (h : fitsE l n = 0) : isLv l = true ∧ (0 ≤ l ∧ l ≤ 3) ∧ 1 ≤ n ∧ n ≤ 3999 := by
  unfold fitsE at h
  cases hv : isLv l
  · rw [hv] at h; cases h
  · rw [hv] at h
    have := hv
    simp [isLv] at this
    by_cases hr : 1 ≤ n ∧ n ≤ 3999
    · exact ⟨rfl, by omega, hr⟩
    · rw [if_neg hr] at h; cases h

theorem Label_yes (lv n : Nat) (hl : lv ≤ 3) (h1 : 1 ≤ n) (hn : n ≤ 3999) (w : World) (ht : Tab w) :
    Calls Tryd.prog 9 #[.int .i64 lv, .int .i64 n] w fun e w' => e = .returned (.tuple #[.string ⟨(labelN lv n).toArray⟩, .int .i64 0]) ∧ Below w.heap.size w w' := by
  have hv : isLv (lv : Int) = true := by simp [isLv]; omega
  have g1 : ¬ ((n : Int) < 1) := by omega
  have g2 : ¬ ((3999 : Int) < n) := by omega
  have hlab := label_any lv n hl hn w ht
  go_enter Tryd.func9, Tryd.ntmps9
  go_wp2_with (first | (go_at_call 22; refine (isLevel_any _ _).mono ?_; rw [hv]; rintro e w' ⟨rfl, rfl⟩) | (go_at_call 23; refine hlab.mono ?_; rintro e w' ⟨rfl, hb⟩))
  go_ret2
  exact ⟨rfl, hb⟩

end Go.Proofs.YtjagnidkjpmkcaaDoor
