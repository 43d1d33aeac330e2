/-
  What is proved here: what numbers are in digits, in letters and in Roman numbers, as lists of bytes; the word behind a word; and that unlike numbers have unlike ones. No program is spoken of.
-/
import Derived.Test.YtjagnidkjpmkcaaDoorRows
import Derived.Lib.ItoaNum
namespace Go.Proofs.YtjagnidkjpmkcaaDoor

/-- A fact that the walk does not look into. -/
def Hid (p : Prop) : Prop := p
theorem Hid.out {p : Prop} (h : Hid p) : p := h

/-- A number in letters, the last one first. -/
def revL (n : Nat) : List UInt8 := if h : n = 0 then [] else UInt8.ofNat (97 + (n - 1) % 26) :: revL ((n - 1) / 26)
termination_by n
decreasing_by omega

theorem revL_zero : revL 0 = [] := by rw [revL]; simp
theorem revL_pos {n : Nat} (h : 0 < n) : revL n = UInt8.ofNat (97 + (n - 1) % 26) :: revL ((n - 1) / 26) := by rw [revL]; rw [dif_neg (by omega)]

def lettersN (n : Nat) : List UInt8 := (revL n).reverse

theorem lettersN_zero : lettersN 0 = [] := by unfold lettersN; rw [revL_zero]; rfl
theorem lettersN_pos {n : Nat} (h : 0 < n) : lettersN n = lettersN ((n - 1) / 26) ++ [UInt8.ofNat (97 + (n - 1) % 26)] := by
  unfold lettersN; rw [revL_pos h]; simp

/-- The word behind a word, both with the last letter first. -/
def incr : List UInt8 → List UInt8
  | [] => [97]
  | c :: r => if c < 122 then (c + 1) :: r else 97 :: incr r

theorem ofNat_lt {k : Nat} (h : k < 26) : (UInt8.ofNat (97 + k) < 122) ↔ k < 25 := by
  rw [UInt8.lt_iff_toNat_lt]
  rw [UInt8.toNat_ofNat_of_lt' (show 97 + k < 2 ^ 8 by omega)]
  show 97 + k < 122 ↔ _
  omega

theorem ofNat_succ {k : Nat} (h : k < 25) : UInt8.ofNat (97 + k) + 1 = UInt8.ofNat (97 + (k + 1)) := by
  apply UInt8.toNat_inj.1
  rw [UInt8.toNat_add, UInt8.toNat_ofNat_of_lt' (show 97 + k < 2 ^ 8 by omega), UInt8.toNat_ofNat_of_lt' (show 97 + (k + 1) < 2 ^ 8 by omega)]
  show (97 + k + 1) % 256 = _
  omega

theorem incr_revL (k : Nat) : incr (revL k) = revL (k + 1) := by
  induction k using Nat.strongRecOn with
  | ind k ih =>
    by_cases h : k = 0
    · subst h; rw [revL_zero, revL_pos (by omega)]; rw [show (0 + 1 - 1) / 26 = 0 by omega, revL_zero]; rfl
    · rw [revL_pos (n := k) (by omega), revL_pos (n := k + 1) (by omega), incr]
      have hm : (k - 1) % 26 < 26 := Nat.mod_lt _ (by omega)
      by_cases hc : (k - 1) % 26 < 25
      · rw [if_pos ((ofNat_lt hm).2 hc), ofNat_succ hc, show k + 1 - 1 = k by omega, show k % 26 = (k - 1) % 26 + 1 by omega, show k / 26 = (k - 1) / 26 by omega]
      · rw [if_neg (fun h' => hc ((ofNat_lt hm).1 h')), ih _ (by omega), show k + 1 - 1 = k by omega, show k % 26 = 0 by omega, show k / 26 = (k - 1) / 26 + 1 by omega]
        rfl

theorem revL_len (k : Nat) : (revL k).length ≤ k := by
  induction k using Nat.strongRecOn with
  | ind k ih =>
    by_cases h : k = 0
    · subst h; rw [revL_zero]; simp
    · rw [revL_pos (by omega)]
      have := ih ((k - 1) / 26) (by omega)
      simp only [List.length_cons]
      omega

theorem lettersN_len (k : Nat) : (lettersN k).length ≤ k := by unfold lettersN; rw [List.length_reverse]; exact revL_len k

/-- Roman numbers, by a table. -/
def rom : List (List UInt8 × Nat) → Nat → List UInt8
  | [], _ => []
  | (s, v) :: r, n => (List.replicate (n / v) s).flatten ++ rom r (n % v)

def romT : List (List UInt8 × Nat) := [([109], 1000), ([99, 109], 900), ([100], 500), ([99, 100], 400), ([99], 100), ([120, 99], 90), ([108], 50), ([120, 108], 40), ([120], 10), ([105, 120], 9), ([118], 5), ([105, 118], 4), ([105], 1)]

def romanN (n : Nat) : List UInt8 := rom romT n

theorem rom_take {s : List UInt8} {v : Nat} {r : List (List UInt8 × Nat)} {n : Nat} (hv : 0 < v) (h : v ≤ n) : rom ((s, v) :: r) n = s ++ rom ((s, v) :: r) (n - v) := by
  simp only [rom]
  rw [Nat.div_eq_sub_div hv h, ← Nat.mod_eq_sub_mod h, List.replicate_succ]
  simp

theorem rom_skip {s : List UInt8} {v : Nat} {r : List (List UInt8 × Nat)} {n : Nat} (h : n < v) : rom ((s, v) :: r) n = rom r n := by
  simp only [rom]
  rw [Nat.div_eq_of_lt h, Nat.mod_eq_of_lt h]
  simp

/-- A label's bytes. -/
def labelN (lv n : Nat) : List UInt8 := if lv = 0 then Lib.decDigits n ++ [46] else if lv = 1 then lettersN n ++ [41] else if lv = 2 then romanN n ++ [46] else [45]

/-! Unlike numbers, unlike labels. -/
def unD (l : List UInt8) : Nat := l.foldl (fun a c => a * 10 + (c.toNat - 48)) 0
theorem unD_snoc (l : List UInt8) (c : UInt8) : unD (l ++ [c]) = unD l * 10 + (c.toNat - 48) := by simp [unD]
theorem unD_dec (u : Nat) : unD (Lib.decDigits u) = u := by
  induction u using Nat.strongRecOn with
  | ind u ih =>
    rw [Lib.decDigits]
    by_cases h : u < 10
    · rw [dif_pos h]
      show 0 * 10 + ((UInt8.ofNat (48 + u)).toNat - 48) = u
      rw [UInt8.toNat_ofNat_of_lt' (show 48 + u < 2 ^ 8 by omega)]
      omega
    · rw [dif_neg h, unD_snoc, ih _ (by omega), UInt8.toNat_ofNat_of_lt' (show 48 + u % 10 < 2 ^ 8 by omega)]
      omega

def unL : List UInt8 → Nat
  | [] => 0
  | c :: r => unL r * 26 + (c.toNat - 96)
theorem unL_rev (u : Nat) : unL (revL u) = u := by
  induction u using Nat.strongRecOn with
  | ind u ih =>
    by_cases h : u = 0
    · subst h; rw [revL_zero]; rfl
    · rw [revL_pos (by omega), unL, ih _ (by omega), UInt8.toNat_ofNat_of_lt' (show 97 + (u - 1) % 26 < 2 ^ 8 by omega)]
      omega

def valR (c : UInt8) : Nat := if c = 109 then 1000 else if c = 100 then 500 else if c = 99 then 100 else if c = 108 then 50 else if c = 120 then 10 else if c = 118 then 5 else 1
def unR : List UInt8 → Nat
  | [] => 0
  | a :: r => match r with
    | [] => valR a
    | b :: _ => if valR a < valR b then unR r - valR a else valR a + unR r

set_option maxRecDepth 100000 in
theorem unR_all : ((List.range 4000).all fun n => unR (romanN n) == n) = true := by kernel_rfl
theorem unR_rom {n : Nat} (h : n < 4000) : unR (romanN n) = n := by
  have := List.all_eq_true.1 unR_all n (List.mem_range.2 h)
  simpa using this

theorem label_inj {lv m n : Nat} (hl : lv < 3) (hm : m < 4000) (hn : n < 4000) (h : labelN lv m = labelN lv n) : m = n := by
  unfold labelN at h
  by_cases h0 : lv = 0
  · rw [if_pos h0, if_pos h0] at h
    have := List.append_cancel_right h
    rw [← unD_dec m, this, unD_dec]
  · rw [if_neg h0, if_neg h0] at h
    by_cases h1 : lv = 1
    · rw [if_pos h1, if_pos h1] at h
      have := List.append_cancel_right h
      unfold lettersN at this
      have := List.reverse_inj.1 this
      rw [← unL_rev m, this, unL_rev]
    · rw [if_neg h1, if_neg h1, if_pos (by omega), if_pos (by omega)] at h
      have := List.append_cancel_right h
      rw [← unR_rom hm, this, unR_rom hn]

end Go.Proofs.YtjagnidkjpmkcaaDoor
