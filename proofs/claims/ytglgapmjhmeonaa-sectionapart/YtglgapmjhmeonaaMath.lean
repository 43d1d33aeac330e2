/-
  What is proved here: what may be a section, as numbers and texts; where its columns are.
-/
import Derived.Test.YtglgapmjhmeonaaRows
import Derived.WalkKit
import Derived.WalkSpells
import Derived.Shelf.Abstract
import Derived.LaidEqlPtr
import Derived.Lib.Builder
import Derived.OwnWalk
import Derived.Laws.StructEq
namespace Go.Proofs.Ytglgapmjhmeonaa
open Go.RowKit Go.Shelf

/-- A fact that the walk does not look into. -/
def Hid (p : Prop) : Prop := p
theorem Hid.out {p : Prop} (h : Hid p) : p := h

abbrev Str := ByteArray
/-- A section. -/
structure Sec where
  w : Int
  h : Int
  top : Int
  bottom : Int
  inner : Int
  outer : Int
  cols : Int
  gap : Int
  start : Int
  balance : Int
  mirror : Int
  h0 : Str
  h1 : Str
  h2 : Str
  f0 : Str
  f1 : Str
  f2 : Str

def seC (s : Sec) : Array Value := #[.int .i64 s.w, .int .i64 s.h, .int .i64 s.top, .int .i64 s.bottom, .int .i64 s.inner, .int .i64 s.outer, .int .i64 s.cols, .int .i64 s.gap, .int .i64 s.start, .int .i64 s.balance, .int .i64 s.mirror, .string s.h0, .string s.h1, .string s.h2, .string s.f0, .string s.f1, .string s.f2]
def seV (s : Sec) : Value := .agg (seC s)
def texts (s : Sec) : List Str := [s.h0, s.h1, s.h2, s.f0, s.f1, s.f2]

def mayB (x : Int) : Bool := decide (32 ≤ x ∧ x ≤ 126) || decide (x = 3)
def bytesB (t : Str) : Bool := t.data.toList.all (fun c => mayB c.toNat)

def RangeBad (s : Sec) : Prop := s.w < 1 ∨ 4095 < s.w ∨ s.h < 1 ∨ 4095 < s.h ∨ s.top < 0 ∨ 4095 < s.top ∨ s.bottom < 0 ∨ 4095 < s.bottom ∨ s.inner < 0 ∨ 4095 < s.inner ∨ s.outer < 0 ∨ 4095 < s.outer ∨ s.gap < 0 ∨ 4095 < s.gap
def ArgBad (s : Sec) : Prop := s.cols < 1 ∨ 8 < s.cols ∨ s.start < 0 ∨ 2 < s.start ∨ s.balance < 0 ∨ 1 < s.balance ∨ s.mirror < 0 ∨ 1 < s.mirror
def roomI (s : Sec) : Int := s.w - s.inner - s.outer - s.gap * (s.cols - 1)
def highI (s : Sec) : Int := s.h - s.top - s.bottom
def wideI (s : Sec) : Int := (roomI s).tdiv s.cols
def Thin (s : Sec) : Prop := roomI s < 10 * s.cols ∨ highI s < 20
instance (s : Sec) : Decidable (RangeBad s) := by unfold RangeBad; infer_instance
instance (s : Sec) : Decidable (ArgBad s) := by unfold ArgBad; infer_instance
instance (s : Sec) : Decidable (Thin s) := by unfold Thin; infer_instance
def textI (s : Sec) : Int := if (texts s).any (fun t => decide (100 < t.size)) then 3 else if (texts s).any (fun t => !bytesB t) then 4 else 0
def checkI (s : Sec) : Int := if RangeBad s then 5 else if ArgBad s then 2 else if Thin s then 5 else textI s
def pageI (s : Sec) (page least : Int) : Int := if checkI s ≠ 0 then checkI s else if page < least ∨ 4096 < page then 5 else 0

structure NumOk (s : Sec) : Prop where
  w : 1 ≤ s.w ∧ s.w ≤ 4095
  h : 1 ≤ s.h ∧ s.h ≤ 4095
  top : 0 ≤ s.top ∧ s.top ≤ 4095
  bottom : 0 ≤ s.bottom ∧ s.bottom ≤ 4095
  inner : 0 ≤ s.inner ∧ s.inner ≤ 4095
  outer : 0 ≤ s.outer ∧ s.outer ≤ 4095
  gap : 0 ≤ s.gap ∧ s.gap ≤ 4095
  cols : 1 ≤ s.cols ∧ s.cols ≤ 8
  start : 0 ≤ s.start ∧ s.start ≤ 2
  balance : 0 ≤ s.balance ∧ s.balance ≤ 1
  mirror : 0 ≤ s.mirror ∧ s.mirror ≤ 1
theorem numOk_of {s : Sec} (h1 : ¬ RangeBad s) (h2 : ¬ ArgBad s) : NumOk s := by
  unfold RangeBad at h1; unfold ArgBad at h2
  constructor <;> omega
theorem gaps_le {s : Sec} (h : NumOk s) : 0 ≤ s.gap * (s.cols - 1) ∧ s.gap * (s.cols - 1) ≤ 28665 := by
  have h1 := h.gap; have h2 := h.cols
  obtain h | h | h | h | h | h | h | h : s.cols = 1 ∨ s.cols = 2 ∨ s.cols = 3 ∨ s.cols = 4 ∨ s.cols = 5 ∨ s.cols = 6 ∨ s.cols = 7 ∨ s.cols = 8 := by omega
  all_goals (rw [h]; omega)

/-- A section that may be. -/
structure May (s : Sec) : Prop extends NumOk s where
  room : 10 * s.cols ≤ roomI s
  high : 20 ≤ highI s
theorem may_of {s : Sec} (h : checkI s = 0) : May s := by
  unfold checkI at h
  by_cases h1 : RangeBad s
  · rw [if_pos h1] at h; omega
  · rw [if_neg h1] at h
    by_cases h2 : ArgBad s
    · rw [if_pos h2] at h; omega
    · rw [if_neg h2] at h
      by_cases h3 : Thin s
      · rw [if_pos h3] at h; omega
      · have hn := numOk_of h1 h2
        unfold Thin at h3
        exact ⟨hn, by omega, by omega⟩
theorem may_page {s : Sec} {page least : Int} (h : pageI s page least = 0) : May s ∧ least ≤ page ∧ page ≤ 4096 := by
  unfold pageI at h
  by_cases h1 : checkI s = 0
  · refine ⟨may_of h1, ?_⟩
    rw [if_neg (by omega)] at h
    by_cases h2 : page < least ∨ 4096 < page
    · rw [if_pos h2] at h; omega
    · omega
  · rw [if_pos h1] at h; exact absurd h h1
theorem wide_lt {s : Sec} (h : NumOk s) : wideI s < 10 ↔ roomI s < 10 * s.cols := by
  have hc := h.cols
  unfold wideI
  by_cases h0 : 0 ≤ roomI s
  · rw [Int.tdiv_eq_ediv_of_nonneg h0, Int.ediv_lt_iff_lt_mul (by omega)]
  · have h1 : (roomI s).tdiv s.cols ≤ 0 := by
      rw [show roomI s = -(-roomI s) by omega, Int.neg_tdiv]
      have := Int.tdiv_nonneg (a := -roomI s) (b := s.cols) (by omega) (by omega)
      omega
    have : 0 ≤ s.cols := by omega
    omega
theorem room_bounds {s : Sec} (h : NumOk s) : -40950 ≤ roomI s ∧ roomI s ≤ 4095 := by
  have := gaps_le h; have := h.w; have := h.inner; have := h.outer
  unfold roomI; omega
theorem wide_bounds {s : Sec} (h : NumOk s) : -40950 ≤ wideI s ∧ wideI s ≤ 4095 := by
  have hr := room_bounds h; have hc := h.cols
  unfold wideI
  by_cases h0 : 0 ≤ roomI s
  · have h1 := Int.tdiv_nonneg (a := roomI s) (b := s.cols) h0 (by omega)
    have h2 := Int.tdiv_le_self (a := roomI s) s.cols h0
    omega
  · rw [show roomI s = -(-roomI s) by omega, Int.neg_tdiv]
    have h1 := Int.tdiv_nonneg (a := -roomI s) (b := s.cols) (by omega) (by omega)
    have h2 := Int.tdiv_le_self (a := -roomI s) s.cols (by omega)
    omega
theorem high_bounds {s : Sec} (h : NumOk s) : -8190 ≤ highI s ∧ highI s ≤ 4095 := by
  have := h.h; have := h.top; have := h.bottom
  unfold highI; omega
/-- How wide columns are, where a section may be. -/
theorem wide_of_may {s : Sec} (h : May s) : 10 ≤ wideI s ∧ wideI s * s.cols ≤ roomI s ∧ roomI s < wideI s * s.cols + s.cols := by
  have hc := h.cols; have hr := h.room
  have h10 : ¬ wideI s < 10 := by rw [wide_lt h.toNumOk]; omega
  refine ⟨by omega, ?_⟩
  have h0 : 0 ≤ roomI s := by omega
  have he : wideI s = roomI s / s.cols := by unfold wideI; rw [Int.tdiv_eq_ediv_of_nonneg h0]
  have hd := Int.mul_ediv_add_emod (roomI s) s.cols
  have hm := Int.emod_nonneg (roomI s) (b := s.cols) (by omega)
  have hl := Int.emod_lt_of_pos (roomI s) (b := s.cols) (by omega)
  have hcm : s.cols * (roomI s / s.cols) = roomI s / s.cols * s.cols := Int.mul_comm _ _
  rw [he]
  omega

/-- The bounds of a number, and why it may not be. -/
structure Bd where
  n : Int
  least : Int
  most : Int
  why : Int
def keepI : List Bd → Int
  | [] => 0
  | b :: r => if b.n < b.least ∨ b.most < b.n then b.why else keepI r
def numL (s : Sec) : List Bd := [⟨s.w, 1, 4095, 5⟩, ⟨s.h, 1, 4095, 5⟩, ⟨s.top, 0, 4095, 5⟩, ⟨s.bottom, 0, 4095, 5⟩, ⟨s.inner, 0, 4095, 5⟩, ⟨s.outer, 0, 4095, 5⟩, ⟨s.gap, 0, 4095, 5⟩, ⟨s.cols, 1, 8, 2⟩, ⟨s.start, 0, 2, 2⟩, ⟨s.balance, 0, 1, 2⟩, ⟨s.mirror, 0, 1, 2⟩]
def sizL (s : Sec) : List Bd := [⟨wideI s, 10, 9223372036854775807, 5⟩, ⟨highI s, 20, 9223372036854775807, 5⟩]
def pagL (page least : Int) : List Bd := [⟨page, least, 4096, 5⟩]
theorem keep_skip {b : Bd} {r : List Bd} (h1 : b.least ≤ b.n) (h2 : b.n ≤ b.most) : keepI (b :: r) = keepI r := by
  rw [keepI, if_neg (by omega)]
theorem keep_no {b : Bd} {r : List Bd} (h : b.n < b.least ∨ b.most < b.n) : keepI (b :: r) = b.why := by
  rw [keepI, if_pos h]
theorem keep_range {r : List Bd} {n l m : Int} {p : Prop} (h : p → keepI r = 5) (hp : (n < l ∨ m < n) ∨ p) : keepI (⟨n, l, m, 5⟩ :: r) = 5 := by
  by_cases h1 : n < l ∨ m < n
  · exact keep_no h1
  · rw [keep_skip (by show l ≤ n; omega) (by show n ≤ m; omega)]
    exact h (hp.resolve_left h1)
theorem keep_arg {r : List Bd} {n l m : Int} {p : Prop} (h : p → keepI r = 2) (hp : (n < l ∨ m < n) ∨ p) : keepI (⟨n, l, m, 2⟩ :: r) = 2 := by
  by_cases h1 : n < l ∨ m < n
  · exact keep_no h1
  · rw [keep_skip (by show l ≤ n; omega) (by show n ≤ m; omega)]
    exact h (hp.resolve_left h1)
theorem keep_num (s : Sec) : keepI (numL s) = if RangeBad s then 5 else if ArgBad s then 2 else 0 := by
  by_cases h1 : RangeBad s
  · rw [if_pos h1]
    unfold RangeBad at h1
    have h2 : (s.w < 1 ∨ 4095 < s.w) ∨ (s.h < 1 ∨ 4095 < s.h) ∨ (s.top < 0 ∨ 4095 < s.top) ∨ (s.bottom < 0 ∨ 4095 < s.bottom) ∨ (s.inner < 0 ∨ 4095 < s.inner) ∨ (s.outer < 0 ∨ 4095 < s.outer) ∨ ((s.gap < 0 ∨ 4095 < s.gap) ∨ False) := by omega
    exact keep_range (fun h => keep_range (fun h => keep_range (fun h => keep_range (fun h => keep_range (fun h => keep_range (fun h => keep_range (fun h => h.elim) h) h) h) h) h) h) h2
  · rw [if_neg h1]
    unfold RangeBad at h1
    unfold numL
    rw [keep_skip (by simp only []; omega) (by simp only []; omega), keep_skip (by simp only []; omega) (by simp only []; omega), keep_skip (by simp only []; omega) (by simp only []; omega), keep_skip (by simp only []; omega) (by simp only []; omega), keep_skip (by simp only []; omega) (by simp only []; omega), keep_skip (by simp only []; omega) (by simp only []; omega), keep_skip (by simp only []; omega) (by simp only []; omega)]
    by_cases h2 : ArgBad s
    · rw [if_pos h2]
      unfold ArgBad at h2
      have h3 : (s.cols < 1 ∨ 8 < s.cols) ∨ (s.start < 0 ∨ 2 < s.start) ∨ (s.balance < 0 ∨ 1 < s.balance) ∨ ((s.mirror < 0 ∨ 1 < s.mirror) ∨ False) := by omega
      exact keep_arg (fun h => keep_arg (fun h => keep_arg (fun h => keep_arg (fun h => h.elim) h) h) h) h3
    · rw [if_neg h2]
      unfold ArgBad at h2
      rw [keep_skip (by simp only []; omega) (by simp only []; omega), keep_skip (by simp only []; omega) (by simp only []; omega), keep_skip (by simp only []; omega) (by simp only []; omega), keep_skip (by simp only []; omega) (by simp only []; omega)]
      rfl
theorem keep_siz {s : Sec} (h : NumOk s) : keepI (sizL s) = if Thin s then 5 else 0 := by
  have h1 := wide_lt h
  have h2 := wide_bounds h
  have h3 := high_bounds h
  by_cases h4 : Thin s
  · rw [if_pos h4]
    unfold Thin at h4
    unfold sizL
    simp only [keepI]
    repeat' split
    all_goals omega
  · rw [if_neg h4]
    unfold Thin at h4
    unfold sizL
    simp only [keepI]
    repeat' split
    all_goals omega
theorem keep_pag (page least : Int) : keepI (pagL page least) = if page < least ∨ 4096 < page then 5 else 0 := by
  unfold pagL
  simp only [keepI]

end Go.Proofs.Ytglgapmjhmeonaa
