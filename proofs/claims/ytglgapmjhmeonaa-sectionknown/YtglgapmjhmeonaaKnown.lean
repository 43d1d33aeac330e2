/-
  What is proved here: the examples of section's chapter are answered as it says.
-/
import Derived.Test.YtglgapmjhmeonaaAwake
import Derived.Test.YtglgapmjhmeonaaWalkH
import Derived.Test.YtglgapmjhmeonaaWalkI
namespace Go.Proofs.Ytglgapmjhmeonaa
open Go.RowKit Go.Shelf

theorem sec_new (w : World) : Below w.heap.size w ((w.alloc (.cells #[.int .i64 0, .int .i64 0, .int .i64 0, .int .i64 0, .int .i64 0, .int .i64 0, .int .i64 0, .int .i64 0, .int .i64 0, .int .i64 0, .int .i64 0, .string ⟨#[]⟩, .string ⟨#[]⟩, .string ⟨#[]⟩, .string ⟨#[]⟩, .string ⟨#[]⟩, .string ⟨#[]⟩] 24)).setRow w.heap.size (seC plainS)) ∧ SB ((w.alloc (.cells #[.int .i64 0, .int .i64 0, .int .i64 0, .int .i64 0, .int .i64 0, .int .i64 0, .int .i64 0, .int .i64 0, .int .i64 0, .int .i64 0, .int .i64 0, .string ⟨#[]⟩, .string ⟨#[]⟩, .string ⟨#[]⟩, .string ⟨#[]⟩, .string ⟨#[]⟩, .string ⟨#[]⟩] 24)).setRow w.heap.size (seC plainS)) w.heap.size plainS :=
  ⟨below_setRow ((Below.refl _ w).alloc (Nat.le_refl _) _) (Nat.le_refl _) _, ⟨setRow_same _ (heap_new w _) _⟩⟩
theorem two_old (w : World) (a b : Obj) : ((w.alloc a).alloc b).heap[w.heap.size]? = some a := (Below.heap_alloc _ _ _ (by simp)).trans (heap_new w a)
theorem two_young (w : World) (a b : Obj) (c : Array Value) : (((w.alloc a).alloc b).setRow w.heap.size c).heap[w.heap.size + 1]? = some b := (setRow_other _ (by omega) c).trans (by have := heap_new (w.alloc a) b; rwa [World.size_alloc] at this)
theorem secs_new (w : World) : Below w.heap.size w ((((w.alloc (.cells #[.int .i64 0, .int .i64 0, .int .i64 0, .int .i64 0, .int .i64 0, .int .i64 0, .int .i64 0, .int .i64 0, .int .i64 0, .int .i64 0, .int .i64 0, .string ⟨#[]⟩, .string ⟨#[]⟩, .string ⟨#[]⟩, .string ⟨#[]⟩, .string ⟨#[]⟩, .string ⟨#[]⟩] 24)).alloc (.cells #[.int .i64 0, .int .i64 0, .int .i64 0, .int .i64 0, .int .i64 0, .int .i64 0, .int .i64 0, .int .i64 0, .int .i64 0, .int .i64 0, .int .i64 0, .string ⟨#[]⟩, .string ⟨#[]⟩, .string ⟨#[]⟩, .string ⟨#[]⟩, .string ⟨#[]⟩, .string ⟨#[]⟩] 24)).setRow w.heap.size (seC plainS)).setRow (w.heap.size + 1) (seC plainS)) ∧ SB ((((w.alloc (.cells #[.int .i64 0, .int .i64 0, .int .i64 0, .int .i64 0, .int .i64 0, .int .i64 0, .int .i64 0, .int .i64 0, .int .i64 0, .int .i64 0, .int .i64 0, .string ⟨#[]⟩, .string ⟨#[]⟩, .string ⟨#[]⟩, .string ⟨#[]⟩, .string ⟨#[]⟩, .string ⟨#[]⟩] 24)).alloc (.cells #[.int .i64 0, .int .i64 0, .int .i64 0, .int .i64 0, .int .i64 0, .int .i64 0, .int .i64 0, .int .i64 0, .int .i64 0, .int .i64 0, .int .i64 0, .string ⟨#[]⟩, .string ⟨#[]⟩, .string ⟨#[]⟩, .string ⟨#[]⟩, .string ⟨#[]⟩, .string ⟨#[]⟩] 24)).setRow w.heap.size (seC plainS)).setRow (w.heap.size + 1) (seC plainS)) w.heap.size plainS ∧ SB ((((w.alloc (.cells #[.int .i64 0, .int .i64 0, .int .i64 0, .int .i64 0, .int .i64 0, .int .i64 0, .int .i64 0, .int .i64 0, .int .i64 0, .int .i64 0, .int .i64 0, .string ⟨#[]⟩, .string ⟨#[]⟩, .string ⟨#[]⟩, .string ⟨#[]⟩, .string ⟨#[]⟩, .string ⟨#[]⟩] 24)).alloc (.cells #[.int .i64 0, .int .i64 0, .int .i64 0, .int .i64 0, .int .i64 0, .int .i64 0, .int .i64 0, .int .i64 0, .int .i64 0, .int .i64 0, .int .i64 0, .string ⟨#[]⟩, .string ⟨#[]⟩, .string ⟨#[]⟩, .string ⟨#[]⟩, .string ⟨#[]⟩, .string ⟨#[]⟩] 24)).setRow w.heap.size (seC plainS)).setRow (w.heap.size + 1) (seC plainS)) (w.heap.size + 1) plainS :=
  ⟨below_setRow (below_setRow (((Below.refl _ w).alloc (Nat.le_refl _) _).alloc (by simp) _) (Nat.le_refl _) _) (by omega) _, ⟨(setRow_other _ (by omega) _).trans (setRow_same _ (two_old w _ _) _)⟩, ⟨setRow_same _ (two_young w _ _ _) _⟩⟩
theorem SB.other {w : World} {B g : Nat} {s : Sec} (h : SB w B s) (hg : B ≠ g) (k : Nat) (v : Value) : SB (w.setCell ⟨g, k, none⟩ v) B s := ⟨(Below.heap_setCell w ⟨g, k, none⟩ v B hg).trans h.row⟩
theorem rect_laid (w : World) (q : Rc) : Below w.heap.size w ((w.alloc (.cells #[.int .i64 0, .int .i64 0, .int .i64 0, .int .i64 0] 31)).setRow w.heap.size (rcC q)) ∧ ((w.alloc (.cells #[.int .i64 0, .int .i64 0, .int .i64 0, .int .i64 0] 31)).setRow w.heap.size (rcC q)).heap[w.heap.size]? = some (.cells (rcC q) 31 (0, 0)) :=
  ⟨below_setRow ((Below.refl _ w).alloc (Nat.le_refl _) _) (Nat.le_refl _) _, setRow_same _ (heap_new w _) _⟩
theorem SB.s0 {w : World} {B : Nat} {s : Sec} (h : SB w B s) (n : Int) : SB (w.setCell ⟨B, 0, none⟩ (.int .i64 n)) B { s with w := n } := ⟨heap_setCell_same w B 0 _ 24 _ h.row⟩
theorem SB.s4 {w : World} {B : Nat} {s : Sec} (h : SB w B s) (n : Int) : SB (w.setCell ⟨B, 4, none⟩ (.int .i64 n)) B { s with inner := n } := ⟨heap_setCell_same w B 4 _ 24 _ h.row⟩
theorem SB.s6 {w : World} {B : Nat} {s : Sec} (h : SB w B s) (n : Int) : SB (w.setCell ⟨B, 6, none⟩ (.int .i64 n)) B { s with cols := n } := ⟨heap_setCell_same w B 6 _ 24 _ h.row⟩
theorem SB.s8 {w : World} {B : Nat} {s : Sec} (h : SB w B s) (n : Int) : SB (w.setCell ⟨B, 8, none⟩ (.int .i64 n)) B { s with start := n } := ⟨heap_setCell_same w B 8 _ 24 _ h.row⟩
theorem SB.s10 {w : World} {B : Nat} {s : Sec} (h : SB w B s) (n : Int) : SB (w.setCell ⟨B, 10, none⟩ (.int .i64 n)) B { s with mirror := n } := ⟨heap_setCell_same w B 10 _ 24 _ h.row⟩
theorem SB.s11 {w : World} {B : Nat} {s : Sec} (h : SB w B s) (n : Str) : SB (w.setCell ⟨B, 11, none⟩ (.string n)) B { s with h0 := n } := ⟨heap_setCell_same w B 11 _ 24 _ h.row⟩
def twoS : Sec := { plainS with cols := 2, inner := 20, mirror := 1 }
def oddS : Sec := { plainS with start := 1 }
def ownS : Sec := { plainS with h0 := ⟨#[120]⟩ }
def manyS : Sec := { plainS with cols := 9 }
def thinS : Sec := { plainS with w := 60 }
def twoA : List Rc := [⟨20, 40, 120, 320⟩, ⟨150, 40, 120, 320⟩]
def twoB : List Rc := [⟨30, 40, 120, 320⟩, ⟨160, 40, 120, 320⟩]
def headQ : Rc := ⟨30, 20, 240, 20⟩
def footQ : Rc := ⟨30, 360, 240, 20⟩
theorem two1 (w : World) : Calls Try.prog 9 #[seV twoS, .int .i64 1] w fun e w' => ∃ v, e = .returned (.tuple #[v, .int .i64 0]) ∧ RcsAt w' v twoA ∧ Below w.heap.size w w' := by
  refine (columns_yes twoS (by decide) 1 (by decide) w).mono ?_
  rintro e w' ⟨g, rfl, _, hG, hb⟩
  exact ⟨_, rfl, row_rcs hG (by decide), hb⟩
theorem two2 (w : World) : Calls Try.prog 9 #[seV twoS, .int .i64 2] w fun e w' => ∃ v, e = .returned (.tuple #[v, .int .i64 0]) ∧ RcsAt w' v twoB ∧ Below w.heap.size w w' := by
  refine (columns_yes twoS (by decide) 2 (by decide) w).mono ?_
  rintro e w' ⟨g, rfl, _, hG, hb⟩
  exact ⟨_, rfl, row_rcs hG (by decide), hb⟩
theorem head1 (w : World) : Calls Try.prog 10 #[seV plainS, .int .i64 1] w fun e w' => e = .returned (.tuple #[rcV headQ, .int .i64 0]) ∧ Below w.heap.size w w' := head_any plainS (by decide) 1 w
theorem foot1 (w : World) : Calls Try.prog 11 #[seV plainS, .int .i64 1] w fun e w' => e = .returned (.tuple #[rcV footQ, .int .i64 0]) ∧ Below w.heap.size w w' := foot_any plainS (by decide) 1 w

theorem begin1 (w : World) : Calls Try.prog 21 #[seV plainS, .int .i64 3] w fun e w' => e = .returned (.tuple #[.int .i64 4, .int .i64 0]) ∧ Below w.heap.size w w' := begin_any plainS (by decide) 3 w
theorem begin2 (w : World) : Calls Try.prog 21 #[seV oddS, .int .i64 3] w fun e w' => e = .returned (.tuple #[.int .i64 5, .int .i64 0]) ∧ Below w.heap.size w w' := begin_any oddS (by decide) 3 w
theorem begin3 (w : World) : Calls Try.prog 21 #[seV oddS, .int .i64 4] w fun e w' => e = .returned (.tuple #[.int .i64 5, .int .i64 0]) ∧ Below w.heap.size w w' := begin_any oddS (by decide) 4 w
theorem variant1 (w : World) : Calls Try.prog 22 #[seV plainS, .int .i64 1, .bool true] w fun e w' => e = .returned (.tuple #[.int .i64 1, .int .i64 0]) ∧ Below w.heap.size w w' := by
  have := variant_any plainS (by decide) 1 true w
  rw [show variantA plainS 1 true = 1 by decide +kernel] at this
  exact this
theorem variant2 (w : World) : Calls Try.prog 22 #[seV ownS, .int .i64 1, .bool true] w fun e w' => e = .returned (.tuple #[.int .i64 0, .int .i64 0]) ∧ Below w.heap.size w w' := by
  have := variant_any ownS (by decide) 1 true w
  rw [show variantA ownS 1 true = 0 by decide +kernel] at this
  exact this
theorem variant3 (w : World) : Calls Try.prog 22 #[seV ownS, .int .i64 2, .bool false] w fun e w' => e = .returned (.tuple #[.int .i64 2, .int .i64 0]) ∧ Below w.heap.size w w' := variant_any ownS (by decide) 2 false w
theorem columns0 (w : World) : Calls Try.prog 9 #[seV plainS, .int .i64 0] w fun e w' => e = .returned (.tuple #[.slice none 0 0, .int .i64 5]) ∧ Below w.heap.size w w' := columns_no plainS (by decide) 0 (by decide) w
theorem check9 (w : World) : Calls Try.prog 13 #[seV manyS] w fun e w' => e = .returned (.int .i64 2) ∧ Below w.heap.size w w' := check_any manyS (by decide) w
theorem check60 (w : World) : Calls Try.prog 13 #[seV thinS] w fun e w' => e = .returned (.int .i64 5) ∧ Below w.heap.size w w' := check_any thinS (by decide) w

set_option maxRecDepth 100000 in
set_option maxHeartbeats 4000000 in
theorem known_any (w : World) : Calls Try.prog 7 #[] w fun e w' => e = .returned (.bool true) ∧ Below w.heap.size w w' := by
  go_enter Try.func7, Try.ntmps7
  have D0 := Below.refl w.heap.size w
  go_wp2_with fail
  refine (plain_any _).mono ?_
  rintro _ w1 ⟨rfl, B1⟩
  have D_w1 := D0.trans (B1.mono D0.size)
  clear D0
  clear B1
  go_wp2_with (first
    | (have D_w1s := D_w1.size; refine wpList_store_row rfl 24 _ _ rfl w1.heap.size (seC plainS) rfl rfl 24 _ (heap_new w1 _) (by kernel_rfl) (by rfl) (seC_one plainS) ?_; obtain ⟨yt, hyt⟩ : ∃ y, (w1.alloc (.cells #[.int .i64 0, .int .i64 0, .int .i64 0, .int .i64 0, .int .i64 0, .int .i64 0, .int .i64 0, .int .i64 0, .int .i64 0, .int .i64 0, .int .i64 0, .string ⟨#[]⟩, .string ⟨#[]⟩, .string ⟨#[]⟩, .string ⟨#[]⟩, .string ⟨#[]⟩, .string ⟨#[]⟩] 24)).setRow w1.heap.size (seC plainS) = y := ⟨_, rfl⟩; obtain ⟨Byt, St_yt⟩ := sec_new w1; rw [hyt] at Byt St_yt; rw [hyt]; clear hyt; have D_yt := D_w1.trans (Byt.mono D_w1.size); clear D_w1; have ct6 := St_yt.c6; have zt6 : yt.frozen? ⟨w1.heap.size, 6, none⟩ = false := Lib.frozen_of_heap St_yt.row _; have ct4 := St_yt.c4; have zt4 : yt.frozen? ⟨w1.heap.size, 4, none⟩ = false := Lib.frozen_of_heap St_yt.row _; have ct10 := St_yt.c10; have zt10 : yt.frozen? ⟨w1.heap.size, 10, none⟩ = false := Lib.frozen_of_heap St_yt.row _; have Tt : SB (((yt.setCell ⟨w1.heap.size, 6, none⟩ (.int .i64 2)).setCell ⟨w1.heap.size, 4, none⟩ (.int .i64 20)).setCell ⟨w1.heap.size, 10, none⟩ (.int .i64 1)) w1.heap.size twoS := (((St_yt.s6 2).s4 20).s10 1); have U : Below w.heap.size w (((yt.setCell ⟨w1.heap.size, 6, none⟩ (.int .i64 2)).setCell ⟨w1.heap.size, 4, none⟩ (.int .i64 20)).setCell ⟨w1.heap.size, 10, none⟩ (.int .i64 1)) := below_setCell (below_setCell (below_setCell D_yt (Nat.le_trans D_w1s (Nat.le_refl _)) _) (Nat.le_trans D_w1s (Nat.le_refl _)) _) (Nat.le_trans D_w1s (Nat.le_refl _)) _; clear D_yt St_yt)
    | (refine wpList_load_row rfl 24 _ rfl (w1.heap.size) rfl 24 _ (0, 0) _ Tt.row Try.underlying24 rfl (info24 twoS) ?_))
  refine (two1 _).mono ?_
  rintro _ w2 ⟨B2v, rfl, G1, B2⟩
  have St_w2 : SB w2 (w1.heap.size) twoS := Tt.below B2 Tt.lt
  clear Tt
  have D_w2 := U.trans (B2.mono U.size)
  clear U
  clear B2
  -- Columns
  go_wp2_with (first
    | (refine wpList_load_row rfl 24 _ rfl (w1.heap.size) rfl 24 _ (0, 0) _ St_w2.row Try.underlying24 rfl (info24 twoS) ?_))
  refine (two2 _).mono ?_
  rintro _ w3 ⟨B3v, rfl, G2, B3⟩
  have St_w3 : SB w3 (w1.heap.size) twoS := St_w2.below B3 St_w2.lt
  clear St_w2
  have Ga_w3 : RcsAt w3 B2v twoA := G1.below B3 (Nat.le_refl _)
  clear G1
  have D_w3 := D_w2.trans (B3.mono D_w2.size)
  clear D_w2
  clear B3
  go_wp2_with fail
  refine (plain_any _).mono ?_
  rintro _ w4 ⟨rfl, B4⟩
  have St_w4 : SB w4 (w1.heap.size) twoS := St_w3.below B4 St_w3.lt
  clear St_w3
  have Ga_w4 : RcsAt w4 B2v twoA := Ga_w3.below B4 (Nat.le_refl _)
  clear Ga_w3
  have Gb_w4 : RcsAt w4 B3v twoB := G2.below B4 (Nat.le_refl _)
  clear G2
  have D_w4 := D_w3.trans (B4.mono D_w3.size)
  clear D_w3
  clear B4
  go_wp2_with fail
  refine (head1 _).mono ?_
  rintro _ w5 ⟨rfl, B5⟩
  have Ga_w5 : RcsAt w5 B2v twoA := Ga_w4.below B5 (Nat.le_refl _)
  clear Ga_w4
  have Gb_w5 : RcsAt w5 B3v twoB := Gb_w4.below B5 (Nat.le_refl _)
  clear Gb_w4
  have D_w5 := D_w4.trans (B5.mono D_w4.size)
  clear D_w4
  clear B5
  go_wp2_with (first
    | (refine wpList_store_row rfl 31 _ _ rfl w5.heap.size (rcC headQ) rfl rfl 31 _ (heap_new w5 _) (by kernel_rfl) (by rfl) (rcC_one _) ?_; obtain ⟨yh, hyh⟩ : ∃ y, (w5.alloc (.cells #[.int .i64 0, .int .i64 0, .int .i64 0, .int .i64 0] 31)).setRow w5.heap.size (rcC headQ) = y := ⟨_, rfl⟩; obtain ⟨Byh, Xyh⟩ := rect_laid w5 headQ; rw [hyh] at Byh Xyh; rw [hyh]; clear hyh; have Ga_yh : RcsAt yh B2v twoA := Ga_w5.below Byh (Nat.le_refl _); clear Ga_w5; have Gb_yh : RcsAt yh B3v twoB := Gb_w5.below Byh (Nat.le_refl _); clear Gb_w5; have D_yh := D_w5.trans (Byh.mono D_w5.size); clear D_w5; have Rh_yh : Hid (yh.heap[w5.heap.size]? = some (.cells (rcC headQ) 31 (0, 0))) := Xyh; clear Xyh Byh))
  refine (plain_any _).mono ?_
  rintro _ w6 ⟨rfl, B6⟩
  have Rh_w6 : Hid (w6.heap[w5.heap.size]? = some (.cells (rcC headQ) 31 (0, 0))) := (B6.block _ (Array.getElem?_eq_some_iff.1 Rh_yh.out).1).trans Rh_yh.out
  clear Rh_yh
  have Ga_w6 : RcsAt w6 B2v twoA := Ga_yh.below B6 (Nat.le_refl _)
  clear Ga_yh
  have Gb_w6 : RcsAt w6 B3v twoB := Gb_yh.below B6 (Nat.le_refl _)
  clear Gb_yh
  have D_w6 := D_yh.trans (B6.mono D_yh.size)
  clear D_yh
  clear B6
  go_wp2_with fail
  refine (foot1 _).mono ?_
  rintro _ w7 ⟨rfl, B7⟩
  have Rh_w7 : Hid (w7.heap[w5.heap.size]? = some (.cells (rcC headQ) 31 (0, 0))) := (B7.block _ (Array.getElem?_eq_some_iff.1 Rh_w6.out).1).trans Rh_w6.out
  clear Rh_w6
  have Ga_w7 : RcsAt w7 B2v twoA := Ga_w6.below B7 (Nat.le_refl _)
  clear Ga_w6
  have Gb_w7 : RcsAt w7 B3v twoB := Gb_w6.below B7 (Nat.le_refl _)
  clear Gb_w6
  have D_w7 := D_w6.trans (B7.mono D_w6.size)
  clear D_w6
  clear B7
  go_wp2_with (first
    | (refine wpList_store_row rfl 31 _ _ rfl w7.heap.size (rcC footQ) rfl rfl 31 _ (heap_new w7 _) (by kernel_rfl) (by rfl) (rcC_one _) ?_; obtain ⟨yf, hyf⟩ : ∃ y, (w7.alloc (.cells #[.int .i64 0, .int .i64 0, .int .i64 0, .int .i64 0] 31)).setRow w7.heap.size (rcC footQ) = y := ⟨_, rfl⟩; obtain ⟨Byf, Xyf⟩ := rect_laid w7 footQ; rw [hyf] at Byf Xyf; rw [hyf]; clear hyf; have Rh_yf : Hid (yf.heap[w5.heap.size]? = some (.cells (rcC headQ) 31 (0, 0))) := (Byf.block _ (Array.getElem?_eq_some_iff.1 Rh_w7.out).1).trans Rh_w7.out; clear Rh_w7; have Ga_yf : RcsAt yf B2v twoA := Ga_w7.below Byf (Nat.le_refl _); clear Ga_w7; have Gb_yf : RcsAt yf B3v twoB := Gb_w7.below Byf (Nat.le_refl _); clear Gb_w7; have D_yf := D_w7.trans (Byf.mono D_w7.size); clear D_w7; have Rf_yf : Hid (yf.heap[w7.heap.size]? = some (.cells (rcC footQ) 31 (0, 0))) := Xyf; clear Xyf Byf))
  have Za := (Below.refl yf.heap.size yf).alloc (Nat.le_refl _) (.cells (rcRow twoA) 31)
  have Pa : RcsAt (yf.alloc (.cells (rcRow twoA) 31)) B2v twoA := Ga_yf.below Za (Nat.le_refl _)
  have Qa : RcsAt (yf.alloc (.cells (rcRow twoA) 31)) (.slice (some ⟨yf.heap.size, 0, none⟩) 2 2) twoA := row_rcs (cap := 2) (heap_new yf _) (by decide)
  refine (rects_same B2v _ twoA _ Pa Qa).mono ?_
  rintro _ w8 ⟨rfl, B80⟩
  have B8 : Below yf.heap.size yf w8 := Za.trans (B80.mono Za.size)
  clear Pa Qa Za B80 Ga_yf
  have Rh_w8 : Hid (w8.heap[w5.heap.size]? = some (.cells (rcC headQ) 31 (0, 0))) := (B8.block _ (Array.getElem?_eq_some_iff.1 Rh_yf.out).1).trans Rh_yf.out
  clear Rh_yf
  have Rf_w8 : Hid (w8.heap[w7.heap.size]? = some (.cells (rcC footQ) 31 (0, 0))) := (B8.block _ (Array.getElem?_eq_some_iff.1 Rf_yf.out).1).trans Rf_yf.out
  clear Rf_yf
  have Gb_w8 : RcsAt w8 B3v twoB := Gb_yf.below B8 (Nat.le_refl _)
  clear Gb_yf
  have D_w8 := D_yf.trans (B8.mono D_yf.size)
  clear D_yf
  clear B8
  go_wp2_with fail
  have Zb := (Below.refl w8.heap.size w8).alloc (Nat.le_refl _) (.cells (rcRow twoB) 31)
  have Pb : RcsAt (w8.alloc (.cells (rcRow twoB) 31)) B3v twoB := Gb_w8.below Zb (Nat.le_refl _)
  have Qb : RcsAt (w8.alloc (.cells (rcRow twoB) 31)) (.slice (some ⟨w8.heap.size, 0, none⟩) 2 2) twoB := row_rcs (cap := 2) (heap_new w8 _) (by decide)
  refine (rects_same B3v _ twoB _ Pb Qb).mono ?_
  rintro _ w9 ⟨rfl, B90⟩
  have B9 : Below w8.heap.size w8 w9 := Zb.trans (B90.mono Zb.size)
  clear Pb Qb Zb B90 Gb_w8
  have Rh_w9 : Hid (w9.heap[w5.heap.size]? = some (.cells (rcC headQ) 31 (0, 0))) := (B9.block _ (Array.getElem?_eq_some_iff.1 Rh_w8.out).1).trans Rh_w8.out
  clear Rh_w8
  have Rf_w9 : Hid (w9.heap[w7.heap.size]? = some (.cells (rcC footQ) 31 (0, 0))) := (B9.block _ (Array.getElem?_eq_some_iff.1 Rf_w8.out).1).trans Rf_w8.out
  clear Rf_w8
  have D_w9 := D_w8.trans (B9.mono D_w8.size)
  clear D_w8
  clear B9
  go_wp2_with fail
  refine (plain_any _).mono ?_
  rintro _ w10 ⟨rfl, B10⟩
  have Rh_w10 : Hid (w10.heap[w5.heap.size]? = some (.cells (rcC headQ) 31 (0, 0))) := (B10.block _ (Array.getElem?_eq_some_iff.1 Rh_w9.out).1).trans Rh_w9.out
  clear Rh_w9
  have Rf_w10 : Hid (w10.heap[w7.heap.size]? = some (.cells (rcC footQ) 31 (0, 0))) := (B10.block _ (Array.getElem?_eq_some_iff.1 Rf_w9.out).1).trans Rf_w9.out
  clear Rf_w9
  have D_w10 := D_w9.trans (B10.mono D_w9.size)
  clear D_w9
  clear B10
  go_wp2_with (first
    | (have D_w10s := D_w10.size; refine wpList_store_row rfl 24 _ _ rfl w10.heap.size (seC plainS) rfl rfl 24 _ (heap_new w10 _) (by kernel_rfl) (by rfl) (seC_one plainS) ?_; obtain ⟨yo, hyo⟩ : ∃ y, (w10.alloc (.cells #[.int .i64 0, .int .i64 0, .int .i64 0, .int .i64 0, .int .i64 0, .int .i64 0, .int .i64 0, .int .i64 0, .int .i64 0, .int .i64 0, .int .i64 0, .string ⟨#[]⟩, .string ⟨#[]⟩, .string ⟨#[]⟩, .string ⟨#[]⟩, .string ⟨#[]⟩, .string ⟨#[]⟩] 24)).setRow w10.heap.size (seC plainS) = y := ⟨_, rfl⟩; obtain ⟨Byo, So_yo⟩ := sec_new w10; rw [hyo] at Byo So_yo; rw [hyo]; clear hyo; have Rh_yo0 := Rh_w10; have Rh_yo : Hid (yo.heap[w5.heap.size]? = some (.cells (rcC headQ) 31 (0, 0))) := (Byo.block _ (Array.getElem?_eq_some_iff.1 Rh_w10.out).1).trans Rh_w10.out; clear Rh_w10; have Rf_yo0 := Rf_w10; have Rf_yo : Hid (yo.heap[w7.heap.size]? = some (.cells (rcC footQ) 31 (0, 0))) := (Byo.block _ (Array.getElem?_eq_some_iff.1 Rf_w10.out).1).trans Rf_w10.out; clear Rf_w10; have D_yo := D_w10.trans (Byo.mono D_w10.size); clear D_w10; have co8 := So_yo.c8; have zo8 : yo.frozen? ⟨w10.heap.size, 8, none⟩ = false := Lib.frozen_of_heap So_yo.row _; have To : SB (yo.setCell ⟨w10.heap.size, 8, none⟩ (.int .i64 1)) w10.heap.size oddS := (So_yo.s8 1); have Uo : Below w.heap.size w (yo.setCell ⟨w10.heap.size, 8, none⟩ (.int .i64 1)) := (below_setCell D_yo D_w10s _); have Rh_yok : Hid ((yo.setCell ⟨w10.heap.size, 8, none⟩ (.int .i64 1)).heap[w5.heap.size]? = some (.cells (rcC headQ) 31 (0, 0))) := ((Below.heap_setCell _ _ _ _ (by show w5.heap.size ≠ w10.heap.size; have := (Array.getElem?_eq_some_iff.1 Rh_yo0.out).1; omega)).trans Rh_yo.out); have Rf_yok : Hid ((yo.setCell ⟨w10.heap.size, 8, none⟩ (.int .i64 1)).heap[w7.heap.size]? = some (.cells (rcC footQ) 31 (0, 0))) := ((Below.heap_setCell _ _ _ _ (by show w7.heap.size ≠ w10.heap.size; have := (Array.getElem?_eq_some_iff.1 Rf_yo0.out).1; omega)).trans Rf_yo.out); clear D_yo So_yo))
  refine (plain_any _).mono ?_
  rintro _ w11 ⟨rfl, B11⟩
  have So_w11 : SB w11 (w10.heap.size) oddS := To.below B11 To.lt
  clear To
  have Rh_w11 : Hid (w11.heap[w5.heap.size]? = some (.cells (rcC headQ) 31 (0, 0))) := (B11.block _ (Array.getElem?_eq_some_iff.1 Rh_yok.out).1).trans Rh_yok.out
  clear Rh_yok
  have Rf_w11 : Hid (w11.heap[w7.heap.size]? = some (.cells (rcC footQ) 31 (0, 0))) := (B11.block _ (Array.getElem?_eq_some_iff.1 Rf_yok.out).1).trans Rf_yok.out
  clear Rf_yok
  have D_w11 := Uo.trans (B11.mono Uo.size)
  clear Uo
  clear B11
  go_wp2_with fail
  refine (begin1 _).mono ?_
  rintro _ w12 ⟨rfl, B12⟩
  have So_w12 : SB w12 (w10.heap.size) oddS := So_w11.below B12 So_w11.lt
  clear So_w11
  have Rh_w12 : Hid (w12.heap[w5.heap.size]? = some (.cells (rcC headQ) 31 (0, 0))) := (B12.block _ (Array.getElem?_eq_some_iff.1 Rh_w11.out).1).trans Rh_w11.out
  clear Rh_w11
  have Rf_w12 : Hid (w12.heap[w7.heap.size]? = some (.cells (rcC footQ) 31 (0, 0))) := (B12.block _ (Array.getElem?_eq_some_iff.1 Rf_w11.out).1).trans Rf_w11.out
  clear Rf_w11
  have D_w12 := D_w11.trans (B12.mono D_w11.size)
  clear D_w11
  clear B12
  go_wp2_with (first
    | (refine wpList_load_row rfl 24 _ rfl (w10.heap.size) rfl 24 _ (0, 0) _ So_w12.row Try.underlying24 rfl (info24 oddS) ?_))
  refine (begin2 _).mono ?_
  rintro _ w13 ⟨rfl, B13⟩
  have So_w13 : SB w13 (w10.heap.size) oddS := So_w12.below B13 So_w12.lt
  clear So_w12
  have Rh_w13 : Hid (w13.heap[w5.heap.size]? = some (.cells (rcC headQ) 31 (0, 0))) := (B13.block _ (Array.getElem?_eq_some_iff.1 Rh_w12.out).1).trans Rh_w12.out
  clear Rh_w12
  have Rf_w13 : Hid (w13.heap[w7.heap.size]? = some (.cells (rcC footQ) 31 (0, 0))) := (B13.block _ (Array.getElem?_eq_some_iff.1 Rf_w12.out).1).trans Rf_w12.out
  clear Rf_w12
  have D_w13 := D_w12.trans (B13.mono D_w12.size)
  clear D_w12
  clear B13
  go_wp2_with (first
    | (refine wpList_load_row rfl 24 _ rfl (w10.heap.size) rfl 24 _ (0, 0) _ So_w13.row Try.underlying24 rfl (info24 oddS) ?_))
  refine (begin3 _).mono ?_
  rintro _ w14 ⟨rfl, B14⟩
  have So_w14 : SB w14 (w10.heap.size) oddS := So_w13.below B14 So_w13.lt
  clear So_w13
  have Rh_w14 : Hid (w14.heap[w5.heap.size]? = some (.cells (rcC headQ) 31 (0, 0))) := (B14.block _ (Array.getElem?_eq_some_iff.1 Rh_w13.out).1).trans Rh_w13.out
  clear Rh_w13
  have Rf_w14 : Hid (w14.heap[w7.heap.size]? = some (.cells (rcC footQ) 31 (0, 0))) := (B14.block _ (Array.getElem?_eq_some_iff.1 Rf_w13.out).1).trans Rf_w13.out
  clear Rf_w13
  have D_w14 := D_w13.trans (B14.mono D_w13.size)
  clear D_w13
  clear B14
  go_wp2_with fail
  refine (plain_any _).mono ?_
  rintro _ w15 ⟨rfl, B15⟩
  have So_w15 : SB w15 (w10.heap.size) oddS := So_w14.below B15 So_w14.lt
  clear So_w14
  have Rh_w15 : Hid (w15.heap[w5.heap.size]? = some (.cells (rcC headQ) 31 (0, 0))) := (B15.block _ (Array.getElem?_eq_some_iff.1 Rh_w14.out).1).trans Rh_w14.out
  clear Rh_w14
  have Rf_w15 : Hid (w15.heap[w7.heap.size]? = some (.cells (rcC footQ) 31 (0, 0))) := (B15.block _ (Array.getElem?_eq_some_iff.1 Rf_w14.out).1).trans Rf_w14.out
  clear Rf_w14
  have D_w15 := D_w14.trans (B15.mono D_w14.size)
  clear D_w14
  clear B15
  go_wp2_with (first
    | (have D_w15s := D_w15.size; refine wpList_store_row rfl 24 _ _ rfl w15.heap.size (seC plainS) rfl rfl 24 _ (heap_new w15 _) (by kernel_rfl) (by rfl) (seC_one plainS) ?_; obtain ⟨yn, hyn⟩ : ∃ y, (w15.alloc (.cells #[.int .i64 0, .int .i64 0, .int .i64 0, .int .i64 0, .int .i64 0, .int .i64 0, .int .i64 0, .int .i64 0, .int .i64 0, .int .i64 0, .int .i64 0, .string ⟨#[]⟩, .string ⟨#[]⟩, .string ⟨#[]⟩, .string ⟨#[]⟩, .string ⟨#[]⟩, .string ⟨#[]⟩] 24)).setRow w15.heap.size (seC plainS) = y := ⟨_, rfl⟩; obtain ⟨Byn, Sn_yn⟩ := sec_new w15; rw [hyn] at Byn Sn_yn; rw [hyn]; clear hyn; have Rh_yn0 := Rh_w15; have Rh_yn : Hid (yn.heap[w5.heap.size]? = some (.cells (rcC headQ) 31 (0, 0))) := (Byn.block _ (Array.getElem?_eq_some_iff.1 Rh_w15.out).1).trans Rh_w15.out; clear Rh_w15; have Rf_yn0 := Rf_w15; have Rf_yn : Hid (yn.heap[w7.heap.size]? = some (.cells (rcC footQ) 31 (0, 0))) := (Byn.block _ (Array.getElem?_eq_some_iff.1 Rf_w15.out).1).trans Rf_w15.out; clear Rf_w15; have D_yn := D_w15.trans (Byn.mono D_w15.size); clear D_w15; have cn11 := Sn_yn.cell (k := 11) (v := .string plainS.h0) rfl; have zn11 : yn.frozen? ⟨w15.heap.size, 11, none⟩ = false := Lib.frozen_of_heap Sn_yn.row _; have Tn : SB (yn.setCell ⟨w15.heap.size, 11, none⟩ (.string ⟨#[120]⟩)) w15.heap.size ownS := (Sn_yn.s11 ⟨#[120]⟩); have Un : Below w.heap.size w (yn.setCell ⟨w15.heap.size, 11, none⟩ (.string ⟨#[120]⟩)) := (below_setCell D_yn D_w15s _); have Rh_ynk : Hid ((yn.setCell ⟨w15.heap.size, 11, none⟩ (.string ⟨#[120]⟩)).heap[w5.heap.size]? = some (.cells (rcC headQ) 31 (0, 0))) := ((Below.heap_setCell _ _ _ _ (by show w5.heap.size ≠ w15.heap.size; have := (Array.getElem?_eq_some_iff.1 Rh_yn0.out).1; omega)).trans Rh_yn.out); have Rf_ynk : Hid ((yn.setCell ⟨w15.heap.size, 11, none⟩ (.string ⟨#[120]⟩)).heap[w7.heap.size]? = some (.cells (rcC footQ) 31 (0, 0))) := ((Below.heap_setCell _ _ _ _ (by show w7.heap.size ≠ w15.heap.size; have := (Array.getElem?_eq_some_iff.1 Rf_yn0.out).1; omega)).trans Rf_yn.out); clear D_yn Sn_yn))
  refine (plain_any _).mono ?_
  rintro _ w16 ⟨rfl, B16⟩
  have Sn_w16 : SB w16 (w15.heap.size) ownS := Tn.below B16 Tn.lt
  clear Tn
  have Rh_w16 : Hid (w16.heap[w5.heap.size]? = some (.cells (rcC headQ) 31 (0, 0))) := (B16.block _ (Array.getElem?_eq_some_iff.1 Rh_ynk.out).1).trans Rh_ynk.out
  clear Rh_ynk
  have Rf_w16 : Hid (w16.heap[w7.heap.size]? = some (.cells (rcC footQ) 31 (0, 0))) := (B16.block _ (Array.getElem?_eq_some_iff.1 Rf_ynk.out).1).trans Rf_ynk.out
  clear Rf_ynk
  have D_w16 := Un.trans (B16.mono Un.size)
  clear Un
  clear B16
  go_wp2_with fail
  refine (variant1 _).mono ?_
  rintro _ w17 ⟨rfl, B17⟩
  have Sn_w17 : SB w17 (w15.heap.size) ownS := Sn_w16.below B17 Sn_w16.lt
  clear Sn_w16
  have Rh_w17 : Hid (w17.heap[w5.heap.size]? = some (.cells (rcC headQ) 31 (0, 0))) := (B17.block _ (Array.getElem?_eq_some_iff.1 Rh_w16.out).1).trans Rh_w16.out
  clear Rh_w16
  have Rf_w17 : Hid (w17.heap[w7.heap.size]? = some (.cells (rcC footQ) 31 (0, 0))) := (B17.block _ (Array.getElem?_eq_some_iff.1 Rf_w16.out).1).trans Rf_w16.out
  clear Rf_w16
  have D_w17 := D_w16.trans (B17.mono D_w16.size)
  clear D_w16
  clear B17
  go_wp2_with (first
    | (refine wpList_load_row rfl 24 _ rfl (w15.heap.size) rfl 24 _ (0, 0) _ Sn_w17.row Try.underlying24 rfl (info24 ownS) ?_))
  refine (variant2 _).mono ?_
  rintro _ w18 ⟨rfl, B18⟩
  have Sn_w18 : SB w18 (w15.heap.size) ownS := Sn_w17.below B18 Sn_w17.lt
  clear Sn_w17
  have Rh_w18 : Hid (w18.heap[w5.heap.size]? = some (.cells (rcC headQ) 31 (0, 0))) := (B18.block _ (Array.getElem?_eq_some_iff.1 Rh_w17.out).1).trans Rh_w17.out
  clear Rh_w17
  have Rf_w18 : Hid (w18.heap[w7.heap.size]? = some (.cells (rcC footQ) 31 (0, 0))) := (B18.block _ (Array.getElem?_eq_some_iff.1 Rf_w17.out).1).trans Rf_w17.out
  clear Rf_w17
  have D_w18 := D_w17.trans (B18.mono D_w17.size)
  clear D_w17
  clear B18
  go_wp2_with (first
    | (refine wpList_load_row rfl 24 _ rfl (w15.heap.size) rfl 24 _ (0, 0) _ Sn_w18.row Try.underlying24 rfl (info24 ownS) ?_))
  refine (variant3 _).mono ?_
  rintro _ w19 ⟨rfl, B19⟩
  have Sn_w19 : SB w19 (w15.heap.size) ownS := Sn_w18.below B19 Sn_w18.lt
  clear Sn_w18
  have Rh_w19 : Hid (w19.heap[w5.heap.size]? = some (.cells (rcC headQ) 31 (0, 0))) := (B19.block _ (Array.getElem?_eq_some_iff.1 Rh_w18.out).1).trans Rh_w18.out
  clear Rh_w18
  have Rf_w19 : Hid (w19.heap[w7.heap.size]? = some (.cells (rcC footQ) 31 (0, 0))) := (B19.block _ (Array.getElem?_eq_some_iff.1 Rf_w18.out).1).trans Rf_w18.out
  clear Rf_w18
  have D_w19 := D_w18.trans (B19.mono D_w18.size)
  clear D_w18
  clear B19
  go_wp2_with fail
  refine (plain_any _).mono ?_
  rintro _ w20 ⟨rfl, B20⟩
  have Sn_w20 : SB w20 (w15.heap.size) ownS := Sn_w19.below B20 Sn_w19.lt
  clear Sn_w19
  have Rh_w20 : Hid (w20.heap[w5.heap.size]? = some (.cells (rcC headQ) 31 (0, 0))) := (B20.block _ (Array.getElem?_eq_some_iff.1 Rh_w19.out).1).trans Rh_w19.out
  clear Rh_w19
  have Rf_w20 : Hid (w20.heap[w7.heap.size]? = some (.cells (rcC footQ) 31 (0, 0))) := (B20.block _ (Array.getElem?_eq_some_iff.1 Rf_w19.out).1).trans Rf_w19.out
  clear Rf_w19
  have D_w20 := D_w19.trans (B20.mono D_w19.size)
  clear D_w19
  clear B20
  go_wp2_with fail
  refine (columns0 _).mono ?_
  rintro _ w21 ⟨rfl, B21⟩
  have Rh_w21 : Hid (w21.heap[w5.heap.size]? = some (.cells (rcC headQ) 31 (0, 0))) := (B21.block _ (Array.getElem?_eq_some_iff.1 Rh_w20.out).1).trans Rh_w20.out
  clear Rh_w20
  have Rf_w21 : Hid (w21.heap[w7.heap.size]? = some (.cells (rcC footQ) 31 (0, 0))) := (B21.block _ (Array.getElem?_eq_some_iff.1 Rf_w20.out).1).trans Rf_w20.out
  clear Rf_w20
  have D_w21 := D_w20.trans (B21.mono D_w20.size)
  clear D_w20
  clear B21
  go_wp2_with fail
  refine (plain_any _).mono ?_
  rintro _ w22 ⟨rfl, B22⟩
  have Rh_w22 : Hid (w22.heap[w5.heap.size]? = some (.cells (rcC headQ) 31 (0, 0))) := (B22.block _ (Array.getElem?_eq_some_iff.1 Rh_w21.out).1).trans Rh_w21.out
  clear Rh_w21
  have Rf_w22 : Hid (w22.heap[w7.heap.size]? = some (.cells (rcC footQ) 31 (0, 0))) := (B22.block _ (Array.getElem?_eq_some_iff.1 Rf_w21.out).1).trans Rf_w21.out
  clear Rf_w21
  have D_w22 := D_w21.trans (B22.mono D_w21.size)
  clear D_w21
  clear B22
  go_wp2_with fail
  refine (plain_any _).mono ?_
  rintro _ w23 ⟨rfl, B23⟩
  have Rh_w23 : Hid (w23.heap[w5.heap.size]? = some (.cells (rcC headQ) 31 (0, 0))) := (B23.block _ (Array.getElem?_eq_some_iff.1 Rh_w22.out).1).trans Rh_w22.out
  clear Rh_w22
  have Rf_w23 : Hid (w23.heap[w7.heap.size]? = some (.cells (rcC footQ) 31 (0, 0))) := (B23.block _ (Array.getElem?_eq_some_iff.1 Rf_w22.out).1).trans Rf_w22.out
  clear Rf_w22
  have D_w23 := D_w22.trans (B23.mono D_w22.size)
  clear D_w22
  clear B23
  go_wp2_with (first
    | (refine wpList_store_row rfl 24 _ _ rfl (w23.heap.size + 1) (seC plainS) rfl rfl 24 _ (two_young w23 _ _ _) (by kernel_rfl) (by rfl) (seC_one plainS) ?_; obtain ⟨y, hy⟩ : ∃ y, (((w23.alloc (.cells #[.int .i64 0, .int .i64 0, .int .i64 0, .int .i64 0, .int .i64 0, .int .i64 0, .int .i64 0, .int .i64 0, .int .i64 0, .int .i64 0, .int .i64 0, .string ⟨#[]⟩, .string ⟨#[]⟩, .string ⟨#[]⟩, .string ⟨#[]⟩, .string ⟨#[]⟩, .string ⟨#[]⟩] 24)).alloc (.cells #[.int .i64 0, .int .i64 0, .int .i64 0, .int .i64 0, .int .i64 0, .int .i64 0, .int .i64 0, .int .i64 0, .int .i64 0, .int .i64 0, .int .i64 0, .string ⟨#[]⟩, .string ⟨#[]⟩, .string ⟨#[]⟩, .string ⟨#[]⟩, .string ⟨#[]⟩, .string ⟨#[]⟩] 24)).setRow w23.heap.size (seC plainS)).setRow (w23.heap.size + 1) (seC plainS) = y := ⟨_, rfl⟩; obtain ⟨By, Sm, Sh⟩ := secs_new w23; rw [hy] at By Sm Sh; rw [hy]; clear hy; have D_w23s := D_w23.size; have Rh_w230 := Rh_w23; have Rf_w230 := Rf_w23; have Rh_y : Hid (y.heap[w5.heap.size]? = some (.cells (rcC headQ) 31 (0, 0))) := (By.block _ (Array.getElem?_eq_some_iff.1 Rh_w23.out).1).trans Rh_w23.out; clear Rh_w23; have Rf_y : Hid (y.heap[w7.heap.size]? = some (.cells (rcC footQ) 31 (0, 0))) := (By.block _ (Array.getElem?_eq_some_iff.1 Rf_w23.out).1).trans Rf_w23.out; clear Rf_w23; have D_y := D_w23.trans (By.mono D_w23.size); clear D_w23; have cm := Sm.c6; have zm : y.frozen? ⟨w23.heap.size, 6, none⟩ = false := Lib.frozen_of_heap Sm.row _; have ch := Sh.c0; have zh : y.frozen? ⟨w23.heap.size + 1, 0, none⟩ = false := Lib.frozen_of_heap Sh.row _; have ch2 : (y.setCell ⟨w23.heap.size, 6, none⟩ (.int .i64 9)).cell? ⟨w23.heap.size + 1, 0, none⟩ = some (.int .i64 plainS.w) := (Sh.other (by omega) 6 _).c0; have zh2 : (y.setCell ⟨w23.heap.size, 6, none⟩ (.int .i64 9)).frozen? ⟨w23.heap.size + 1, 0, none⟩ = false := Lib.frozen_of_heap (Sh.other (by omega) 6 _).row _; have Tm : SB ((y.setCell ⟨w23.heap.size, 6, none⟩ (.int .i64 9)).setCell ⟨w23.heap.size + 1, 0, none⟩ (.int .i64 60)) w23.heap.size manyS := (Sm.s6 9).other (by omega) 0 _; have Th : SB ((y.setCell ⟨w23.heap.size, 6, none⟩ (.int .i64 9)).setCell ⟨w23.heap.size + 1, 0, none⟩ (.int .i64 60)) (w23.heap.size + 1) thinS := (Sh.other (by omega) 6 _).s0 60; have Ul : Below w.heap.size w ((y.setCell ⟨w23.heap.size, 6, none⟩ (.int .i64 9)).setCell ⟨w23.heap.size + 1, 0, none⟩ (.int .i64 60)) := below_setCell (below_setCell D_y D_w23s _) (by omega) _; have Rh_yk : Hid (((y.setCell ⟨w23.heap.size, 6, none⟩ (.int .i64 9)).setCell ⟨w23.heap.size + 1, 0, none⟩ (.int .i64 60)).heap[w5.heap.size]? = some (.cells (rcC headQ) 31 (0, 0))) := ((Below.heap_setCell _ _ _ _ (by show w5.heap.size ≠ w23.heap.size + 1; have := (Array.getElem?_eq_some_iff.1 Rh_w230.out).1; omega)).trans ((Below.heap_setCell _ _ _ _ (by show w5.heap.size ≠ w23.heap.size; have := (Array.getElem?_eq_some_iff.1 Rh_w230.out).1; omega)).trans Rh_y.out)); have Rf_yk : Hid (((y.setCell ⟨w23.heap.size, 6, none⟩ (.int .i64 9)).setCell ⟨w23.heap.size + 1, 0, none⟩ (.int .i64 60)).heap[w7.heap.size]? = some (.cells (rcC footQ) 31 (0, 0))) := ((Below.heap_setCell _ _ _ _ (by show w7.heap.size ≠ w23.heap.size + 1; have := (Array.getElem?_eq_some_iff.1 Rf_w230.out).1; omega)).trans ((Below.heap_setCell _ _ _ _ (by show w7.heap.size ≠ w23.heap.size; have := (Array.getElem?_eq_some_iff.1 Rf_w230.out).1; omega)).trans Rf_y.out)); clear Sm Sh D_y Rh_w230 Rf_w230)
    | (refine wpList_store_row rfl 24 _ _ rfl w23.heap.size (seC plainS) rfl rfl 24 _ (two_old w23 _ _) (by kernel_rfl) (by rfl) (seC_one plainS) ?_))
  refine (awake_any _).mono ?_
  rintro _ w24 ⟨rfl, B24⟩
  have Sm_w24 : SB w24 (w23.heap.size) manyS := Tm.below B24 Tm.lt
  clear Tm
  have Si_w24 : SB w24 (w23.heap.size + 1) thinS := Th.below B24 Th.lt
  clear Th
  have Rh_w24 : Hid (w24.heap[w5.heap.size]? = some (.cells (rcC headQ) 31 (0, 0))) := (B24.block _ (Array.getElem?_eq_some_iff.1 Rh_yk.out).1).trans Rh_yk.out
  clear Rh_yk
  have Rf_w24 : Hid (w24.heap[w7.heap.size]? = some (.cells (rcC footQ) 31 (0, 0))) := (B24.block _ (Array.getElem?_eq_some_iff.1 Rf_yk.out).1).trans Rf_yk.out
  clear Rf_yk
  have D_w24 := Ul.trans (B24.mono Ul.size)
  clear Ul
  clear B24
  have Lh : w24.heap[w5.heap.size]? = some (.cells #[.int .i64 30, .int .i64 20, .int .i64 240, .int .i64 20] 31 (0, 0)) := Rh_w24.out
  have Lf : w24.heap[w7.heap.size]? = some (.cells #[.int .i64 30, .int .i64 360, .int .i64 240, .int .i64 20] 31 (0, 0)) := Rf_w24.out
  go_wp2_with (first
    | (refine wpList_load_want 31 _ rfl (by rfl) (w5.heap.size) rfl 31 _ (0, 0) _ Lh Try.underlying31 rfl (by kernel_rfl) ?_)
    | (refine wpList_load_want 31 _ rfl (by rfl) (w7.heap.size) rfl 31 _ (0, 0) _ Lf Try.underlying31 rfl (by kernel_rfl) ?_)
    | (refine wpList_load_want 24 _ rfl (by rfl) (w23.heap.size) rfl 24 _ (0, 0) _ Sm_w24.row Try.underlying24 rfl (info24 manyS) ?_))
  refine (check9 _).mono ?_
  rintro _ w25 ⟨rfl, B25⟩
  have Sm_w25 : SB w25 (w23.heap.size) manyS := Sm_w24.below B25 Sm_w24.lt
  clear Sm_w24
  have Si_w25 : SB w25 (w23.heap.size + 1) thinS := Si_w24.below B25 Si_w24.lt
  clear Si_w24
  have D_w25 := D_w24.trans (B25.mono D_w24.size)
  clear D_w24
  clear B25
  go_wp2_with (first
    | (refine wpList_load_want 24 _ rfl (by rfl) (w23.heap.size + 1) rfl 24 _ (0, 0) _ Si_w25.row Try.underlying24 rfl (info24 thinS) ?_))
  refine (check60 _).mono ?_
  rintro _ w26 ⟨rfl, B26⟩
  have Sm_w26 : SB w26 (w23.heap.size) manyS := Sm_w25.below B26 Sm_w25.lt
  clear Sm_w25
  have Si_w26 : SB w26 (w23.heap.size + 1) thinS := Si_w25.below B26 Si_w25.lt
  clear Si_w25
  have D_w26 := D_w25.trans (B26.mono D_w25.size)
  clear D_w25
  clear B26
  go_wp2_with fail
  go_ret
  exact ⟨rfl, D_w26⟩
end Go.Proofs.Ytglgapmjhmeonaa
