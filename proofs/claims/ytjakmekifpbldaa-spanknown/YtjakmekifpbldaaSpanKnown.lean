/-
  What is proved here: SpanKnown answers true: the chapter's examples are answered as it says; there is no input and no condition.
-/
import Derived.Test.YtjakmekifpbldaaKnownOps
import Derived.ProofKit
import Derived.OpenShut
namespace Go.Proofs.Ytjakmekifpbldaa.spanKnown
open Go.ChangeShapes Go.WideShapes Go.ChangeAt Go.RowKit Go.Shelf

theorem own : ownKnob Try.prog.godebug = none := by kernel_rfl

def L0 : List Ch := List.replicate 4 one
def L1 : List Ch := setL L0 1 2 two
def L2 : List Ch := insL L1 one 3 2
def L3 : List Ch := insL L2 one 0 1
def L4 : List Ch := delL L3 0 2
def L5 : List Ch := delL L4 0 5
def m5 : Ch := delM L4 one 5
def L6 : List Ch := insL L5 m5 0 1
def spB : List Sp := [(2, one), (4, two), (1, one)]

set_option maxHeartbeats 8000000 in
set_option maxRecDepth 100000 in
theorem walk (w : World) : Calls Try.prog 7 #[] w fun e w' => e = .returned (.bool true) ∧ Below w.heap.size w w' := by
  have hnew : ∀ W, Calls Try.prog 8 #[.int .i64 4, .agg #[.int .i64 10, .int .i64 0, .int .i64 0]] W fun e w' => ∃ t sv, e = .returned (.tuple #[.pointer (some ⟨t, 0, none⟩), .int .i64 0]) ∧ W.heap.size ≤ t ∧ LooksAt t sv L0 one w' ∧ Below W.heap.size W w' := new_ok 4 one (by decide) (by decide)
  have hset : ∀ t sv W, LooksAt t sv L0 one W → Calls Try.prog 23 #[.pointer (some ⟨t, 0, none⟩), .int .i64 1, .int .i64 2, .agg #[.int .i64 12, .int .i64 0, .int .i64 0]] W fun e w' => ∃ sv', e = .returned (.int .i64 0) ∧ LooksAt t sv' L1 one w' ∧ Only t W w' ∧ ∀ g, sv'.ownBlock = some g → W.heap.size ≤ g := fun t sv W hW => set_ok t sv L0 one 1 2 two (by decide) (by decide) W hW
  have hin1 : ∀ t sv W, LooksAt t sv L1 one W → Calls Try.prog 21 #[.pointer (some ⟨t, 0, none⟩), .int .i64 3, .int .i64 2] W fun e w' => ∃ sv', e = .returned (.int .i64 0) ∧ LooksAt t sv' L2 one w' ∧ Only t W w' ∧ ∀ g, sv'.ownBlock = some g → W.heap.size ≤ g := fun t sv W hW => insert_ok t sv L1 one 3 2 (by decide) (by decide) W hW
  have hin2 : ∀ t sv W, LooksAt t sv L2 one W → Calls Try.prog 21 #[.pointer (some ⟨t, 0, none⟩), .int .i64 0, .int .i64 1] W fun e w' => ∃ sv', e = .returned (.int .i64 0) ∧ LooksAt t sv' L3 one w' ∧ Only t W w' ∧ ∀ g, sv'.ownBlock = some g → W.heap.size ≤ g := fun t sv W hW => insert_ok t sv L2 one 0 1 (by decide) (by decide) W hW
  have hsl : ∀ t sv W, LooksAt t sv L3 one W → Calls Try.prog 20 #[.pointer (some ⟨t, 0, none⟩), .int .i64 0, .int .i64 7] W fun e w' => ∃ v, e = .returned (.tuple #[v, .int .i64 0]) ∧ RowAt w' W.heap.size 61 v spB ∧ Below W.heap.size W w' := fun t sv W hW => by
    have h := slice_ok t sv L3 one 0 7 (by decide) (by decide) W hW
    have hr : rle (sub L3 0 7) = spB := by decide
    rw [hr] at h
    exact h
  have hde1 : ∀ t sv W, LooksAt t sv L3 one W → Calls Try.prog 22 #[.pointer (some ⟨t, 0, none⟩), .int .i64 0, .int .i64 2] W fun e w' => ∃ sv', e = .returned (.int .i64 0) ∧ LooksAt t sv' L4 one w' ∧ Only t W w' ∧ ∀ g, sv'.ownBlock = some g → W.heap.size ≤ g := fun t sv W hW => by
    have h := delete_ok t sv L3 one 0 2 (by decide) W hW
    have hr : delM L3 one 2 = one := by decide
    rw [hr] at h
    exact h
  have hde2 : ∀ t sv W, LooksAt t sv L4 one W → Calls Try.prog 22 #[.pointer (some ⟨t, 0, none⟩), .int .i64 0, .int .i64 5] W fun e w' => ∃ sv', e = .returned (.int .i64 0) ∧ LooksAt t sv' L5 m5 w' ∧ Only t W w' ∧ ∀ g, sv'.ownBlock = some g → W.heap.size ≤ g := fun t sv W hW => delete_ok t sv L4 one 0 5 (by decide) W hW
  have hin3 : ∀ t sv W, LooksAt t sv L5 m5 W → Calls Try.prog 21 #[.pointer (some ⟨t, 0, none⟩), .int .i64 0, .int .i64 1] W fun e w' => ∃ sv', e = .returned (.int .i64 0) ∧ LooksAt t sv' L6 m5 w' ∧ Only t W w' ∧ ∀ g, sv'.ownBlock = some g → W.heap.size ≤ g := fun t sv W hW => insert_ok t sv L5 m5 0 1 (by decide) (by decide) W hW
  have hat : ∀ t sv W, LooksAt t sv L6 m5 W → Calls Try.prog 19 #[.pointer (some ⟨t, 0, none⟩), .int .i64 0] W fun e w' => e = .returned (.tuple #[.agg #[.int .i64 10, .int .i64 0, .int .i64 0], .int .i64 0]) ∧ Below W.heap.size W w' := fun t sv W hW => by
    have h := at_ok t sv L6 m5 0 (by decide) W hW
    have hr : L6[0]'(by decide) = one := by decide
    rw [hr] at h
    exact h
  have hn1 : ∀ W, Calls Try.prog 8 #[.int .i64 (-1), .agg #[.int .i64 10, .int .i64 0, .int .i64 0]] W fun e w' => e = .returned (.tuple #[.pointer none, .int .i64 5]) ∧ Below W.heap.size W w' := fun W => new_out (-1) one (by decide) (by decide) W
  have hn2 : ∀ W, Calls Try.prog 8 #[.int .i64 4097, .agg #[.int .i64 10, .int .i64 0, .int .i64 0]] W fun e w' => e = .returned (.tuple #[.pointer none, .int .i64 8]) ∧ Below W.heap.size W w' := fun W => new_out 4097 one (by decide) (by decide) W
  have hs1 : ∀ t sv W, LooksAt t sv L6 m5 W → Calls Try.prog 23 #[.pointer (some ⟨t, 0, none⟩), .int .i64 0, .int .i64 1, .agg #[.int .i64 65, .int .i64 0, .int .i64 0]] W fun e w' => e = .returned (.int .i64 2) ∧ Below W.heap.size W w' := fun t sv W hW => set_bad t sv L6 m5 0 1 ⟨65, 0, 0⟩ (by decide) (by decide) W hW
  have hs2 : ∀ t sv W, LooksAt t sv L6 m5 W → Calls Try.prog 23 #[.pointer (some ⟨t, 0, none⟩), .int .i64 1, .int .i64 1, .agg #[.int .i64 10, .int .i64 0, .int .i64 0]] W fun e w' => e = .returned (.int .i64 5) ∧ Below W.heap.size W w' := fun t sv W hW => set_range t sv L6 m5 1 1 one (by decide) (by decide) W hW
  have hc1 : ∀ v W, SpansAt W v [(2, one), (1, one)] → Calls Try.prog 16 #[v, .int .i64 3] W fun e w' => e = .returned (.int .i64 0) ∧ Below W.heap.size W w' := fun v W hW => check_any v [(2, one), (1, one)] 3 (by decide) W hW
  have hc2 : ∀ v W, SpansAt W v [(2, one)] → Calls Try.prog 16 #[v, .int .i64 3] W fun e w' => e = .returned (.int .i64 5) ∧ Below W.heap.size W w' := fun v W hW => check_any v [(2, one)] 3 (by decide) W hW
  have hc3 : ∀ v W, SpansAt W v [(0, one)] → Calls Try.prog 16 #[v, .int .i64 0] W fun e w' => e = .returned (.int .i64 5) ∧ Below W.heap.size W w' := fun v W hW => check_any v [(0, one)] 0 (by decide) W hW
  have hc4 : ∀ W, Calls Try.prog 16 #[.slice none 0 0, .int .i64 0] W fun e w' => e = .returned (.int .i64 0) ∧ Below W.heap.size W w' := fun W => check_any (.slice none 0 0) [] 0 (by decide) W ⟨⟨none, 0, rfl, .inl rfl⟩, by simp, by simp⟩
  generalize L6 = l6 at *
  generalize L5 = l5 at *
  generalize L4 = l4 at *
  generalize L3 = l3 at *
  generalize L2 = l2 at *
  generalize L1 = l1 at *
  generalize L0 = l0 at *
  generalize m5 = mm at *
  go_enter Try.func7, Try.ntmps7
  go_wp2_with fail
  refine (one_any _).mono ?_
  rintro e w1 ⟨rfl, Bw1⟩
  have Cw1 := Bw1
  go_wp2_with fail
  refine (hnew _).mono ?_
  rintro e w2 ⟨t, sv0, rfl, htl, hw2, Bw2⟩
  have htw : w.heap.size ≤ t := Nat.le_trans Cw1.size htl
  have Cw2 := Cw1.trans (Bw2.mono Cw1.size)
  go_wp2_with fail
  refine (two_any _).mono ?_
  rintro e w3 ⟨rfl, Bw3⟩
  have Cw3 := Cw2.trans (Bw3.mono Cw2.size)
  have hw3 := hw2.below Bw3
  go_wp2_with fail
  refine (hset t _ _ hw3).mono ?_
  rintro e w4 ⟨svw4, rfl, hw4, Ow4, _⟩
  have Cw4 : Below w.heap.size w w4 := Only.below Cw3 htw (Nat.le_refl _) Ow4
  go_wp2_with fail
  refine (hin1 t _ _ hw4).mono ?_
  rintro e w5 ⟨svw5, rfl, hw5, Ow5, _⟩
  have Cw5 : Below w.heap.size w w5 := Only.below Cw4 htw (Nat.le_refl _) Ow5
  go_wp2_with fail
  refine (hin2 t _ _ hw5).mono ?_
  rintro e w6 ⟨svw6, rfl, hw6, Ow6, _⟩
  have Cw6 : Below w.heap.size w w6 := Only.below Cw5 htw (Nat.le_refl _) Ow6
  go_wp2_with fail
  refine (hsl t _ _ hw6).mono ?_
  rintro e w7 ⟨vw7, rfl, rw7, Bw7⟩
  have Cw7 := Cw6.trans (Bw7.mono Cw6.size)
  have hw7 := hw6.below Bw7
  obtain ⟨aS, cpS, rfl⟩ := rw7.form
  have S0 : SpansAt w7 (.slice aS spB.length cpS) (ips spB) := spans_rowAt rw7 (by decide) (by decide)
  clear rw7
  go_wp2_with fail
  refine (one_any _).mono ?_
  rintro e w8 ⟨rfl, Bw8⟩
  have Cw8 := Cw7.trans (Bw8.mono Cw7.size)
  have hw8 := hw7.below Bw8
  have Sw8 := S0.below Bw8
  go_wp2_with fail
  refine (two_any _).mono ?_
  rintro e w9 ⟨rfl, Bw9⟩
  have Cw9 := Cw8.trans (Bw9.mono Cw8.size)
  have hw9 := hw8.below Bw9
  have Sw9 := Sw8.below Bw9
  go_wp2_with fail
  refine (one_any _).mono ?_
  rintro e w10 ⟨rfl, Bw10⟩
  have Cw10 := Cw9.trans (Bw10.mono Cw9.size)
  have hw10 := hw9.below Bw10
  have Sw10 := Sw9.below Bw10
  go_wp2_with fail
  obtain ⟨w11, hw11e⟩ : ∃ w11, w10.alloc (Obj.cells #[.int .i64 2, .int .i64 10, .int .i64 0, .int .i64 0, .int .i64 4, .int .i64 12, .int .i64 0, .int .i64 0, .int .i64 1, .int .i64 10, .int .i64 0, .int .i64 0] 61) = w11 := ⟨_, rfl⟩
  have Bw11 : Below w10.heap.size w10 w11 := by rw [← hw11e]; exact (Below.refl _ w10).alloc (Nat.le_refl _) _
  have Nw11 : w11.heap[w10.heap.size]? = some (.cells #[.int .i64 2, .int .i64 10, .int .i64 0, .int .i64 0, .int .i64 4, .int .i64 12, .int .i64 0, .int .i64 0, .int .i64 1, .int .i64 10, .int .i64 0, .int .i64 0] 61 (0, 0)) := by rw [← hw11e]; exact heap_new w10 _
  have Cw11 := Cw10.trans (Bw11.mono Cw10.size)
  have hw11 := hw10.below Bw11
  have Sw11 := Sw10.below Bw11
  have hsp := spans_any _ _ (ips spB) (ips spB) _ Sw11 (spans_lit (qs := ips spB) w10.heap.size Nw11 rfl (by decide) (by decide))
  rw [decide_eq_true rfl] at hsp
  rw [hw11e]
  refine hsp.mono ?_
  rintro e w12 ⟨rfl, Bw12⟩
  have Cw12 := Cw11.trans (Bw12.mono Cw11.size)
  have hw12 := hw11.below Bw12
  go_wp2_with fail
  refine (hde1 t _ _ hw12).mono ?_
  rintro e w13 ⟨svw13, rfl, hw13, Ow13, _⟩
  have Cw13 : Below w.heap.size w w13 := Only.below Cw12 htw (Nat.le_refl _) Ow13
  go_wp2_with fail
  refine (hde2 t _ _ hw13).mono ?_
  rintro e w14 ⟨svw14, rfl, hw14, Ow14, _⟩
  have Cw14 : Below w.heap.size w w14 := Only.below Cw13 htw (Nat.le_refl _) Ow14
  go_wp2_with fail
  refine (hin3 t _ _ hw14).mono ?_
  rintro e w15 ⟨svw15, rfl, hw15, Ow15, _⟩
  have Cw15 : Below w.heap.size w w15 := Only.below Cw14 htw (Nat.le_refl _) Ow15
  go_wp2_with fail
  refine (hat t _ _ hw15).mono ?_
  rintro e w16 ⟨rfl, Bw16⟩
  have Cw16 := Cw15.trans (Bw16.mono Cw15.size)
  have hw16 := hw15.below Bw16
  go_wp2_with fail
  obtain ⟨w17, hw17e⟩ : ∃ w17, w16.alloc (Obj.cells #[.int .i64 10, .int .i64 0, .int .i64 0] 23) = w17 := ⟨_, rfl⟩
  have Bw17 : Below w16.heap.size w16 w17 := by rw [← hw17e]; exact (Below.refl _ w16).alloc (Nat.le_refl _) _
  have Nw17 : w17.heap[w16.heap.size]? = some (.cells #[.int .i64 10, .int .i64 0, .int .i64 0] 23 (0, 0)) := by rw [← hw17e]; exact heap_new w16 _
  have Cw17 := Cw16.trans (Bw17.mono Cw16.size)
  have hw17 := hw16.below Bw17
  obtain ⟨xb, hxb⟩ : ∃ xb, w16.heap.size = xb := ⟨_, rfl⟩
  rw [hxb] at Nw17
  rw [hw17e, hxb]
  refine (one_any _).mono ?_
  rintro e w18 ⟨rfl, Bw18⟩
  have Cw18 := Cw17.trans (Bw18.mono Cw17.size)
  have hw18 := hw17.below Bw18
  have Xw18 : w18.heap[xb]? = some (.cells #[.int .i64 10, .int .i64 0, .int .i64 0] 23 (0, 0)) := (Bw18.block _ (Array.getElem?_eq_some_iff.1 Nw17).1).trans Nw17
  go_wp2_with fail
  refine (hn1 _).mono ?_
  rintro e w19 ⟨rfl, Bw19⟩
  have Cw19 := Cw18.trans (Bw19.mono Cw18.size)
  have hw19 := hw18.below Bw19
  have Xw19 : w19.heap[xb]? = some (.cells #[.int .i64 10, .int .i64 0, .int .i64 0] 23 (0, 0)) := (Bw19.block _ (Array.getElem?_eq_some_iff.1 Xw18).1).trans Xw18
  go_wp2_with fail
  refine (one_any _).mono ?_
  rintro e w20 ⟨rfl, Bw20⟩
  have Cw20 := Cw19.trans (Bw20.mono Cw19.size)
  have hw20 := hw19.below Bw20
  have Xw20 : w20.heap[xb]? = some (.cells #[.int .i64 10, .int .i64 0, .int .i64 0] 23 (0, 0)) := (Bw20.block _ (Array.getElem?_eq_some_iff.1 Xw19).1).trans Xw19
  go_wp2_with fail
  refine (hn2 _).mono ?_
  rintro e w21 ⟨rfl, Bw21⟩
  have Cw21 := Cw20.trans (Bw21.mono Cw20.size)
  have hw21 := hw20.below Bw21
  have Xw21 : w21.heap[xb]? = some (.cells #[.int .i64 10, .int .i64 0, .int .i64 0] 23 (0, 0)) := (Bw21.block _ (Array.getElem?_eq_some_iff.1 Xw20).1).trans Xw20
  go_wp2_with fail
  refine (hs1 t _ _ hw21).mono ?_
  rintro e w22 ⟨rfl, Bw22⟩
  have Cw22 := Cw21.trans (Bw22.mono Cw21.size)
  have hw22 := hw21.below Bw22
  have Xw22 : w22.heap[xb]? = some (.cells #[.int .i64 10, .int .i64 0, .int .i64 0] 23 (0, 0)) := (Bw22.block _ (Array.getElem?_eq_some_iff.1 Xw21).1).trans Xw21
  go_wp2_with fail
  refine (one_any _).mono ?_
  rintro e w23 ⟨rfl, Bw23⟩
  have Cw23 := Cw22.trans (Bw23.mono Cw22.size)
  have hw23 := hw22.below Bw23
  have Xw23 : w23.heap[xb]? = some (.cells #[.int .i64 10, .int .i64 0, .int .i64 0] 23 (0, 0)) := (Bw23.block _ (Array.getElem?_eq_some_iff.1 Xw22).1).trans Xw22
  go_wp2_with fail
  refine (hs2 t _ _ hw23).mono ?_
  rintro e w24 ⟨rfl, Bw24⟩
  have Cw24 := Cw23.trans (Bw24.mono Cw23.size)
  have hw24 := hw23.below Bw24
  have Xw24 : w24.heap[xb]? = some (.cells #[.int .i64 10, .int .i64 0, .int .i64 0] 23 (0, 0)) := (Bw24.block _ (Array.getElem?_eq_some_iff.1 Xw23).1).trans Xw23
  go_wp2_with fail
  refine (one_any _).mono ?_
  rintro e w25 ⟨rfl, Bw25⟩
  have Cw25 := Cw24.trans (Bw25.mono Cw24.size)
  have Xw25 : w25.heap[xb]? = some (.cells #[.int .i64 10, .int .i64 0, .int .i64 0] 23 (0, 0)) := (Bw25.block _ (Array.getElem?_eq_some_iff.1 Xw24).1).trans Xw24
  go_wp2_with fail
  refine (one_any _).mono ?_
  rintro e w26 ⟨rfl, Bw26⟩
  have Cw26 := Cw25.trans (Bw26.mono Cw25.size)
  have Xw26 : w26.heap[xb]? = some (.cells #[.int .i64 10, .int .i64 0, .int .i64 0] 23 (0, 0)) := (Bw26.block _ (Array.getElem?_eq_some_iff.1 Xw25).1).trans Xw25
  go_wp2_with fail
  obtain ⟨w27, hw27e⟩ : ∃ w27, w26.alloc (Obj.cells #[.int .i64 2, .int .i64 10, .int .i64 0, .int .i64 0, .int .i64 1, .int .i64 10, .int .i64 0, .int .i64 0] 61) = w27 := ⟨_, rfl⟩
  have Bw27 : Below w26.heap.size w26 w27 := by rw [← hw27e]; exact (Below.refl _ w26).alloc (Nat.le_refl _) _
  have Nw27 : w27.heap[w26.heap.size]? = some (.cells #[.int .i64 2, .int .i64 10, .int .i64 0, .int .i64 0, .int .i64 1, .int .i64 10, .int .i64 0, .int .i64 0] 61 (0, 0)) := by rw [← hw27e]; exact heap_new w26 _
  have Cw27 := Cw26.trans (Bw27.mono Cw26.size)
  have Xw27 : w27.heap[xb]? = some (.cells #[.int .i64 10, .int .i64 0, .int .i64 0] 23 (0, 0)) := (Bw27.block _ (Array.getElem?_eq_some_iff.1 Xw26).1).trans Xw26
  rw [hw27e]
  refine (hc1 _ _ (spans_lit (qs := [(2, one), (1, one)]) w26.heap.size Nw27 rfl (by decide) (by decide))).mono ?_
  rintro e w28 ⟨rfl, Bw28⟩
  have Cw28 := Cw27.trans (Bw28.mono Cw27.size)
  have Xw28 : w28.heap[xb]? = some (.cells #[.int .i64 10, .int .i64 0, .int .i64 0] 23 (0, 0)) := (Bw28.block _ (Array.getElem?_eq_some_iff.1 Xw27).1).trans Xw27
  go_wp2_with fail
  refine (one_any _).mono ?_
  rintro e w29 ⟨rfl, Bw29⟩
  have Cw29 := Cw28.trans (Bw29.mono Cw28.size)
  have Xw29 : w29.heap[xb]? = some (.cells #[.int .i64 10, .int .i64 0, .int .i64 0] 23 (0, 0)) := (Bw29.block _ (Array.getElem?_eq_some_iff.1 Xw28).1).trans Xw28
  go_wp2_with fail
  obtain ⟨w30, hw30e⟩ : ∃ w30, w29.alloc (Obj.cells #[.int .i64 2, .int .i64 10, .int .i64 0, .int .i64 0] 61) = w30 := ⟨_, rfl⟩
  have Bw30 : Below w29.heap.size w29 w30 := by rw [← hw30e]; exact (Below.refl _ w29).alloc (Nat.le_refl _) _
  have Nw30 : w30.heap[w29.heap.size]? = some (.cells #[.int .i64 2, .int .i64 10, .int .i64 0, .int .i64 0] 61 (0, 0)) := by rw [← hw30e]; exact heap_new w29 _
  have Cw30 := Cw29.trans (Bw30.mono Cw29.size)
  have Xw30 : w30.heap[xb]? = some (.cells #[.int .i64 10, .int .i64 0, .int .i64 0] 23 (0, 0)) := (Bw30.block _ (Array.getElem?_eq_some_iff.1 Xw29).1).trans Xw29
  rw [hw30e]
  refine (hc2 _ _ (spans_lit (qs := [(2, one)]) w29.heap.size Nw30 rfl (by decide) (by decide))).mono ?_
  rintro e w31 ⟨rfl, Bw31⟩
  have Cw31 := Cw30.trans (Bw31.mono Cw30.size)
  have Xw31 : w31.heap[xb]? = some (.cells #[.int .i64 10, .int .i64 0, .int .i64 0] 23 (0, 0)) := (Bw31.block _ (Array.getElem?_eq_some_iff.1 Xw30).1).trans Xw30
  go_wp2_with fail
  refine (one_any _).mono ?_
  rintro e w32 ⟨rfl, Bw32⟩
  have Cw32 := Cw31.trans (Bw32.mono Cw31.size)
  have Xw32 : w32.heap[xb]? = some (.cells #[.int .i64 10, .int .i64 0, .int .i64 0] 23 (0, 0)) := (Bw32.block _ (Array.getElem?_eq_some_iff.1 Xw31).1).trans Xw31
  go_wp2_with fail
  obtain ⟨w33, hw33e⟩ : ∃ w33, w32.alloc (Obj.cells #[.int .i64 0, .int .i64 10, .int .i64 0, .int .i64 0] 61) = w33 := ⟨_, rfl⟩
  have Bw33 : Below w32.heap.size w32 w33 := by rw [← hw33e]; exact (Below.refl _ w32).alloc (Nat.le_refl _) _
  have Nw33 : w33.heap[w32.heap.size]? = some (.cells #[.int .i64 0, .int .i64 10, .int .i64 0, .int .i64 0] 61 (0, 0)) := by rw [← hw33e]; exact heap_new w32 _
  have Cw33 := Cw32.trans (Bw33.mono Cw32.size)
  have Xw33 : w33.heap[xb]? = some (.cells #[.int .i64 10, .int .i64 0, .int .i64 0] 23 (0, 0)) := (Bw33.block _ (Array.getElem?_eq_some_iff.1 Xw32).1).trans Xw32
  rw [hw33e]
  refine (hc3 _ _ (spans_lit (qs := [(0, one)]) w32.heap.size Nw33 rfl (by decide) (by decide))).mono ?_
  rintro e w34 ⟨rfl, Bw34⟩
  have Cw34 := Cw33.trans (Bw34.mono Cw33.size)
  have Xw34 : w34.heap[xb]? = some (.cells #[.int .i64 10, .int .i64 0, .int .i64 0] 23 (0, 0)) := (Bw34.block _ (Array.getElem?_eq_some_iff.1 Xw33).1).trans Xw33
  go_wp2_with fail
  refine (hc4 _).mono ?_
  rintro e w35 ⟨rfl, Bw35⟩
  have Cw35 := Cw34.trans (Bw35.mono Cw34.size)
  have Xw35 : w35.heap[xb]? = some (.cells #[.int .i64 10, .int .i64 0, .int .i64 0] 23 (0, 0)) := (Bw35.block _ (Array.getElem?_eq_some_iff.1 Xw34).1).trans Xw34
  go_wp2_with fail
  refine region12 _ (fun _ _ _ _ _ h => h) _ _ xb w35 Xw35 ?_
  intro wa wb Ba Bb
  unfold fr12
  go_wp2_with fail
  go_ret
  have Ca := Cw35.trans (Ba.mono Cw35.size)
  exact ⟨rfl, Ca.trans (Bb.mono Ca.size)⟩

set_option maxRecDepth 100000 in
theorem lifted (os : Os) (started : os.Started) (H : Type) (enc : TypeId × Value → H) :
    ReturnsInHanded {} Try.checked os 7 .any (Rows.spanKnownSpec.pre6 enc Try.prog Try.f7 Rows.spanKnownRow.domain false) (Rows.spanKnownSpec.post enc Try.prog Try.f7 false true false false) := by
  refine returnsInHanded_of_change (C := Try.checked) own started (by kernel_rfl) Try.func7
    (ChangeSpec.witness6 (enc := enc) (C := Try.checked) false ⟨#[], #[], []⟩ 8 (by kernel_rfl) (by kernel_rfl) (by kernel_rfl) (by kernel_rfl)) ?_
  intro W base args ds gs before hval0 hW hcnd _
  have hval : ∀ (j : Nat) t v, Try.f7.params[j]? = some t → args[j]? = some v → Value.okWide Try.prog W .any base t v := hval0
  have hW' := hW
  obtain ⟨p, q, hA0, hV, rfl, hfz, hnd⟩ := hW
  have hA : DataW.TrodAll enc Try.prog W 0 (fun _ => true) true Try.f7.params.toList args.toList ds p := hA0
  rw [Try.params7] at hA hval
  obtain ⟨hargs, rfl, rfl⟩ := trodAll_nil hA
  obtain rfl : args = #[] := by cases args; simp_all
  obtain ⟨rfl, rfl⟩ := trodVars_none hV
  clear hA0 hval0
  simp only [List.append_nil] at hW'
  refine (walk W).mono fun e W' ⟨he, hg⟩ => ?_
  subst he
  exact ⟨_, rfl, _, _, _, [], [], [], hW', trodAll_mk1 (shut_bool Try.underlying4 _), trodAll_mk0, rfl, hg.frame _, fun h => by cases h⟩

theorem over : Rows.spanKnownRow.holds Try.pinned (OpenSpec.ofChange Rows.spanKnownSpec) :=
  OpenClaim.holds_of_wide 7 Try.f7 rfl rfl rfl rfl rfl rfl rfl ⟨rfl, rfl, rfl, rfl, rfl⟩ rfl rfl rfl rfl rfl (by kernel_rfl) Try.func7 (by kernel_rfl)
    (of_decide_eq_true (by kernel_rfl)) (by unfold Func.isWrapper; first | (rw [if_pos (by decide +kernel)]; kernel_rfl) | (rw [if_neg (by decide +kernel)]; exact ⟨rfl, rfl⟩))
    (fun os started H enc _ => lifted os started H enc)

end Go.Proofs.Ytjakmekifpbldaa.spanKnown
namespace Go.Proofs.Ytjakmekifpbldaa

theorem spanKnown_holds : Rows.SpanKnownSaid := spanKnown.over

end Go.Proofs.Ytjakmekifpbldaa
