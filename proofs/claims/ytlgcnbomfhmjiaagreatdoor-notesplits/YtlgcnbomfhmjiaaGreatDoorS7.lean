/-
  What is proved here: which paragraphs may be, as split and Check of metric tell it.
  What is proved here: which span has a byte; what the closure that tells looks answers, and what it keeps.
-/
import Derived.Test.YtlgcnbomfhmjiaaGreatDoorS6
import Derived.BigRegion
import Derived.Deep.QuietTactic
namespace Go.Proofs.YtlgcnbomfhmjiaaGreatDoor
open Go.RowKit Go.Shelf
set_option maxRecDepth 100000
set_option maxHeartbeats 4000000

theorem wpList_load_want {P : Program} {ops : Array Oper} {rest : List Oper} {o : Oper} {a : Act} {w : World} {Q : Exit → Act → World → Prop} (ty : TypeId) (x : Operand) (ho : o.op = .load ty x) (hw : Region.wanted o (yielded ops a.tmps) = true)
  (g : Nat) (hx : a.eval x = .pointer (some ⟨g,0,none⟩)) (t : TypeId) (cs : Array Value) (fr : Nat × Nat) (d : TypeDesc) (hg : w.heap[g]? = some (.cells cs t fr))
  (hu : P.underlying ty = some d) (hd : (match d with | .struct _ | .array _ _ => true | _ => false) = true) (hi : (P.info? ty).map (·.size) = some cs.size)
  (h : wpList P ops Q rest (a.put o.dst (.agg cs)) w) : wpList P ops Q (o :: rest) a w :=
 BigFrame.wpList_want hw fun _ hK => wp_load_row ty x ho g hx t cs fr d hg hu hd hi (hK _ _ h)

def restB (a : Pa) : Bool := spB a.sp a.t.size && keepB (prB a.p) && standB a.lb 0 16 && markB a.t a.ms
def chkI (a : Pa) : Int := if wrongI a.t = 0 then (if fieldB a.t = true then 4 else if restB a = true then 0 else 2) else wrongI a.t
theorem chk_cases (a : Pa) : (chkI a = wrongI a.t ∧ wrongI a.t ≠ 0) ∨ (chkI a = 4 ∧ wrongI a.t = 0 ∧ fieldB a.t = true) ∨ (chkI a = 2 ∧ wrongI a.t = 0 ∧ fieldB a.t = false ∧ restB a = false) ∨ (chkI a = 0 ∧ wrongI a.t = 0 ∧ fieldB a.t = false ∧ restB a = true) := by
 unfold chkI
 by_cases h : wrongI a.t = 0
 ·rw [if_pos h]
  cases hf : fieldB a.t
  ·cases hr : restB a
   ·exact .inr (.inr (.inl ⟨by simp,h,rfl,rfl⟩))
   ·exact .inr (.inr (.inr ⟨by simp,h,rfl,rfl⟩))
  ·exact .inr (.inl ⟨by simp,h,rfl⟩)
 ·rw [if_neg h]; exact .inl ⟨rfl,h⟩
theorem rest_cases (a : Pa) (h : restB a = false) : spB a.sp a.t.size = false ∨ (spB a.sp a.t.size = true ∧ keepB (prB a.p) = false) ∨ (spB a.sp a.t.size = true ∧ keepB (prB a.p) = true ∧ standB a.lb 0 16 = false) ∨ (spB a.sp a.t.size = true ∧ keepB (prB a.p) = true ∧ standB a.lb 0 16 = true ∧ markB a.t a.ms = false) := by
 unfold restB at h
 revert h
 cases spB a.sp a.t.size <;> cases keepB (prB a.p) <;> cases standB a.lb 0 16 <;> cases markB a.t a.ms <;> simp
theorem rest_yes (a : Pa) (h : restB a = true) : spB a.sp a.t.size = true ∧ keepB (prB a.p) = true ∧ standB a.lb 0 16 = true ∧ markB a.t a.ms = true := by
 unfold restB at h
 revert h
 cases spB a.sp a.t.size <;> cases keepB (prB a.p) <;> cases standB a.lb 0 16 <;> cases markB a.t a.ms <;> simp

def SplitEnd (a : Pa) (w : World) (e : Ending) (w' : World) : Prop :=
 (∃ v,e = .returned (.tuple #[v,.int .i64 (chkI a)]) ∧ ((chkI a ≠ 0 ∧ v = .slice none 0 0) ∨ (chkI a = 0 ∧ w'.ownsRow w.heap.size 182 3 v (num a.t) (rowC a.t (num a.t))))) ∧ Below w.heap.size w w'

theorem msplit_any (a : Pa) (w : World) (hA : PaAt w a) : Calls Tryz.prog 115 #[paV a] w (SplitEnd a w) := by
 have hB := (Below.refl w.heap.size w).alloc (Nat.le_refl _) (Obj.cells (paC a) 36)
 have hP := PB.new w a
 have hA1 := hA.below hB (Nat.le_refl _)
 have hsz1 : Hid ((w.alloc (.cells (paC a) 36)).heap.size = w.heap.size + 1) := World.size_alloc _ _
 unfold paV
 rcases chk_cases a with ⟨e1,e2⟩ | ⟨e1,e2,e3⟩ | ⟨e1,e2,e3,e4⟩ | ⟨e1,e2,e3,e4⟩
 ·have c0 := hP.c0
  have hE : Hid (∀ W,Below w.heap.size w W → SplitEnd a w (.returned (.tuple #[.slice none 0 0,.int .i64 (wrongI a.t)])) W) := fun W hW => ⟨⟨_,by rw [e1],.inl ⟨by rw [e1]; exact e2,rfl⟩⟩,hW⟩
  have hs := split_no a.t e2
  generalize wrongI a.t = n at *
  generalize hw1 : w.alloc (.cells (paC a) 36) = w1 at *
  have e2' : (n == 0) = false := by simpa using e2
  clear e1 hP hA1 hA
  go_enter Tryz.func115,Tryz.ntmps115
  go_wp2_with (go_at_call 171; refine (hs _).mono ?_; rintro e w' ⟨rfl,hww⟩; subst w')
  go_ret2
  exact hE.out _ hB
 ·have c0 := hP.c0
  have hE : Hid (∀ W,Below w.heap.size w W → SplitEnd a w (.returned (.tuple #[.slice none 0 0,.int .i64 4])) W) := fun W hW => ⟨⟨_,by rw [e1],.inl ⟨by rw [e1]; decide,rfl⟩⟩,hW⟩
  have hs := split_ok a.t e2
  have hix := indexByte_any a.t
  have hfi := field_index a.t
  rw [e3] at hfi
  have ht4 := ok_size e2
  have hix0 : 0 ≤ Lib.indexByte a.t.data.toList 3 := of_decide_eq_true hfi
  clear hfi e1 e2 e3 ht4
  generalize Lib.indexByte a.t.data.toList 3 = ix at *
  generalize hw1 : w.alloc (.cells (paC a) 36) = w1 at *
  go_enter Tryz.func115,Tryz.ntmps115
  go_wp2_with fail
  refine (hs _).mono ?_
  rintro e w2 ⟨v,rfl,hown,hb2⟩
  have hP2 := hP.below hb2 hP.lt
  have hA2 := hA1.below hb2 (Nat.le_refl _)
  have hB2 := hB.trans (hb2.mono hB.size)
  have c0 := hP2.c0
  have c1 := hP2.c1
  go_wp2_with (go_at_call 172; refine (hix _).mono ?_; rintro e w' ⟨rfl,hww⟩; subst w')
  go_ret2
  exact hE.out _ hB2
 ·have c0 := hP.c0
  have hE : Hid (∀ W,Below w.heap.size w W → SplitEnd a w (.returned (.tuple #[.slice none 0 0,.int .i64 2])) W) := fun W hW => ⟨⟨_,by rw [e1],.inl ⟨by rw [e1]; decide,rfl⟩⟩,hW⟩
  have hs := split_ok a.t e2
  have hix := indexByte_any a.t
  have hfi := field_index a.t
  rw [e3] at hfi
  have ht4 := ok_size e2
  have hix0 : ¬ 0 ≤ Lib.indexByte a.t.data.toList 3 := of_decide_eq_false hfi
  clear hfi e1 e2 e3
  generalize Lib.indexByte a.t.data.toList 3 = ix at *
  generalize hw1 : w.alloc (.cells (paC a) 36) = w1 at *
  rcases rest_cases a e4 with f1 | ⟨f1,f2⟩ | ⟨f1,f2,f3⟩ | ⟨f1,f2,f3,f4⟩
  ·go_enter Tryz.func115,Tryz.ntmps115
   go_wp2_with fail
   refine (hs _).mono ?_
   rintro e w2 ⟨v,rfl,hown,hb2⟩
   have hP2 := hP.below hb2 hP.lt
   have hA2 := hA1.below hb2 (Nat.le_refl _)
   have hB2 := hB.trans (hb2.mono hB.size)
   have c0 := hP2.c0
   have c1 := hP2.c1
   go_wp2_with (go_at_call 172; refine (hix _).mono ?_; rintro e w' ⟨rfl,hww⟩; subst w')
   have hq2 := maySpan_any a.sv a.sp a.t.size ht4 hA2.few.1 w2 hA2.sp
   rw [f1] at hq2
   refine hq2.mono ?_
   rintro e w3 ⟨rfl,hb3⟩
   have hP3 := hP2.below hb3 hP2.lt
   have hA3 := hA2.below hb3 (Nat.le_refl _)
   have hB3 := hB2.trans (hb3.mono hB2.size)
   have c1_3 := hP3.c19
   go_wp2_with fail
   go_ret2
   exact hE.out _ hB3
  ·go_enter Tryz.func115,Tryz.ntmps115
   go_wp2_with fail
   refine (hs _).mono ?_
   rintro e w2 ⟨v,rfl,hown,hb2⟩
   have hP2 := hP.below hb2 hP.lt
   have hA2 := hA1.below hb2 (Nat.le_refl _)
   have hB2 := hB.trans (hb2.mono hB.size)
   have c0 := hP2.c0
   have c1 := hP2.c1
   go_wp2_with (go_at_call 172; refine (hix _).mono ?_; rintro e w' ⟨rfl,hww⟩; subst w')
   have hq2 := maySpan_any a.sv a.sp a.t.size ht4 hA2.few.1 w2 hA2.sp
   rw [f1] at hq2
   refine hq2.mono ?_
   rintro e w3 ⟨rfl,hb3⟩
   have hP3 := hP2.below hb3 hP2.lt
   have hA3 := hA2.below hb3 (Nat.le_refl _)
   have hB3 := hB2.trans (hb3.mono hB2.size)
   have c1_3 := hP3.c19
   go_wp2_with (refine wpList_load_part 33 _ rfl (by rfl) w.heap.size 2 rfl (prL a.p) _ hP3.pr Tryz.underlying33 rfl (info31 a.p) ?_)
   refine (properties_any a.p w3).mono ?_
   rintro e w4 ⟨vb,rfl,hbd,hb4⟩
   have hP4 := hP3.below hb4 hP3.lt
   have hA4 := hA3.below hb4 (Nat.le_refl _)
   have hB4 := hB3.trans (hb4.mono hB3.size)
   have c1_4 := hP4.c19
   have hq4 := keep_any vb (prB a.p) (by show 17 ≤ 100; omega) w4 hbd
   rw [f2] at hq4
   go_wp2_with fail
   refine hq4.mono ?_
   rintro e w5 ⟨rfl,hb5⟩
   have hP5 := hP4.below hb5 hP4.lt
   have hA5 := hA4.below hb5 (Nat.le_refl _)
   have hB5 := hB4.trans (hb5.mono hB4.size)
   have c1_5 := hP5.c19
   go_wp2_with fail
   go_ret2
   exact hE.out _ hB5
  ·go_enter Tryz.func115,Tryz.ntmps115
   go_wp2_with fail
   refine (hs _).mono ?_
   rintro e w2 ⟨v,rfl,hown,hb2⟩
   have hP2 := hP.below hb2 hP.lt
   have hA2 := hA1.below hb2 (Nat.le_refl _)
   have hB2 := hB.trans (hb2.mono hB.size)
   have c0 := hP2.c0
   have c1 := hP2.c1
   go_wp2_with (go_at_call 172; refine (hix _).mono ?_; rintro e w' ⟨rfl,hww⟩; subst w')
   have hq2 := maySpan_any a.sv a.sp a.t.size ht4 hA2.few.1 w2 hA2.sp
   rw [f1] at hq2
   refine hq2.mono ?_
   rintro e w3 ⟨rfl,hb3⟩
   have hP3 := hP2.below hb3 hP2.lt
   have hA3 := hA2.below hb3 (Nat.le_refl _)
   have hB3 := hB2.trans (hb3.mono hB2.size)
   have c1_3 := hP3.c19
   go_wp2_with (refine wpList_load_part 33 _ rfl (by rfl) w.heap.size 2 rfl (prL a.p) _ hP3.pr Tryz.underlying33 rfl (info31 a.p) ?_)
   refine (properties_any a.p w3).mono ?_
   rintro e w4 ⟨vb,rfl,hbd,hb4⟩
   have hP4 := hP3.below hb4 hP3.lt
   have hA4 := hA3.below hb4 (Nat.le_refl _)
   have hB4 := hB3.trans (hb4.mono hB3.size)
   have c1_4 := hP4.c19
   have hq4 := keep_any vb (prB a.p) (by show 17 ≤ 100; omega) w4 hbd
   rw [f2] at hq4
   go_wp2_with fail
   refine hq4.mono ?_
   rintro e w5 ⟨rfl,hb5⟩
   have hP5 := hP4.below hb5 hP4.lt
   have hA5 := hA4.below hb5 (Nat.le_refl _)
   have hB5 := hB4.trans (hb5.mono hB4.size)
   have c1_5 := hP5.c19
   have hq5 := mayStand_any a.lb 0 16 (by omega) w5
   rw [f3] at hq5
   go_wp2_with fail
   refine hq5.mono ?_
   rintro e w6 ⟨rfl,hww⟩
   subst w6
   go_wp2_with fail
   go_ret2
   exact hE.out _ hB5
  ·go_enter Tryz.func115,Tryz.ntmps115
   go_wp2_with fail
   refine (hs _).mono ?_
   rintro e w2 ⟨v,rfl,hown,hb2⟩
   have hP2 := hP.below hb2 hP.lt
   have hA2 := hA1.below hb2 (Nat.le_refl _)
   have hB2 := hB.trans (hb2.mono hB.size)
   have c0 := hP2.c0
   have c1 := hP2.c1
   go_wp2_with (go_at_call 172; refine (hix _).mono ?_; rintro e w' ⟨rfl,hww⟩; subst w')
   have hq2 := maySpan_any a.sv a.sp a.t.size ht4 hA2.few.1 w2 hA2.sp
   rw [f1] at hq2
   refine hq2.mono ?_
   rintro e w3 ⟨rfl,hb3⟩
   have hP3 := hP2.below hb3 hP2.lt
   have hA3 := hA2.below hb3 (Nat.le_refl _)
   have hB3 := hB2.trans (hb3.mono hB2.size)
   have c1_3 := hP3.c19
   go_wp2_with (refine wpList_load_part 33 _ rfl (by rfl) w.heap.size 2 rfl (prL a.p) _ hP3.pr Tryz.underlying33 rfl (info31 a.p) ?_)
   refine (properties_any a.p w3).mono ?_
   rintro e w4 ⟨vb,rfl,hbd,hb4⟩
   have hP4 := hP3.below hb4 hP3.lt
   have hA4 := hA3.below hb4 (Nat.le_refl _)
   have hB4 := hB3.trans (hb4.mono hB3.size)
   have c1_4 := hP4.c19
   have hq4 := keep_any vb (prB a.p) (by show 17 ≤ 100; omega) w4 hbd
   rw [f2] at hq4
   go_wp2_with fail
   refine hq4.mono ?_
   rintro e w5 ⟨rfl,hb5⟩
   have hP5 := hP4.below hb5 hP4.lt
   have hA5 := hA4.below hb5 (Nat.le_refl _)
   have hB5 := hB4.trans (hb5.mono hB4.size)
   have c1_5 := hP5.c19
   have hq5 := mayStand_any a.lb 0 16 (by omega) w5
   rw [f3] at hq5
   go_wp2_with fail
   refine hq5.mono ?_
   rintro e w6 ⟨rfl,hww⟩
   subst w6
   have hq6 := mayMark_any a ht4 w5 hA5
   rw [f4] at hq6
   go_wp2_with (refine wpList_load_want 36 _ rfl (by rfl) w.heap.size rfl 36 _ (0,0) _ hP5.row Tryz.underlying36 rfl (info34 a) ?_)
   refine hq6.mono ?_
   rintro e w6 ⟨rfl,hb6⟩
   have hP6 := hP5.below hb6 hP5.lt
   have hA6 := hA5.below hb6 (Nat.le_refl _)
   have hB6 := hB5.trans (hb6.mono hB5.size)
   have c1_6 := hP6.c19
   go_wp2_with fail
   go_ret2
   exact hE.out _ hB6
 ·have c0 := hP.c0
  have hs := split_ok a.t e2
  have hix := indexByte_any a.t
  have hfi := field_index a.t
  rw [e3] at hfi
  have ht4 := ok_size e2
  have hix0 : ¬ 0 ≤ Lib.indexByte a.t.data.toList 3 := of_decide_eq_false hfi
  have hE : Hid (∀ W v,W.ownsRow w.heap.size 182 3 v (num a.t) (rowC a.t (num a.t)) → Below w.heap.size w W → SplitEnd a w (.returned (.tuple #[v,.int .i64 0])) W) := fun W v hv hW => ⟨⟨_,by rw [e1],.inr ⟨e1,hv⟩⟩,hW⟩
  clear hfi e1 e2 e3
  generalize Lib.indexByte a.t.data.toList 3 = ix at *
  generalize hw1 : w.alloc (.cells (paC a) 36) = w1 at *
  obtain ⟨f1,f2,f3,f4⟩ := rest_yes a e4
  go_enter Tryz.func115,Tryz.ntmps115
  go_wp2_with fail
  refine (hs _).mono ?_
  rintro e w2 ⟨v,rfl,hown,hb2⟩
  have hP2 := hP.below hb2 hP.lt
  have hA2 := hA1.below hb2 (Nat.le_refl _)
  have hB2 := hB.trans (hb2.mono hB.size)
  have c0 := hP2.c0
  have c1 := hP2.c1
  go_wp2_with (go_at_call 172; refine (hix _).mono ?_; rintro e w' ⟨rfl,hww⟩; subst w')
  have hq2 := maySpan_any a.sv a.sp a.t.size ht4 hA2.few.1 w2 hA2.sp
  rw [f1] at hq2
  refine hq2.mono ?_
  rintro e w3 ⟨rfl,hb3⟩
  have hP3 := hP2.below hb3 hP2.lt
  have hA3 := hA2.below hb3 (Nat.le_refl _)
  have hB3 := hB2.trans (hb3.mono hB2.size)
  have c1_3 := hP3.c19
  go_wp2_with (refine wpList_load_part 33 _ rfl (by rfl) w.heap.size 2 rfl (prL a.p) _ hP3.pr Tryz.underlying33 rfl (info31 a.p) ?_)
  refine (properties_any a.p w3).mono ?_
  rintro e w4 ⟨vb,rfl,hbd,hb4⟩
  have hP4 := hP3.below hb4 hP3.lt
  have hA4 := hA3.below hb4 (Nat.le_refl _)
  have hB4 := hB3.trans (hb4.mono hB3.size)
  have c1_4 := hP4.c19
  have hq4 := keep_any vb (prB a.p) (by show 17 ≤ 100; omega) w4 hbd
  rw [f2] at hq4
  go_wp2_with fail
  refine hq4.mono ?_
  rintro e w5 ⟨rfl,hb5⟩
  have hP5 := hP4.below hb5 hP4.lt
  have hA5 := hA4.below hb5 (Nat.le_refl _)
  have hB5 := hB4.trans (hb5.mono hB4.size)
  have c1_5 := hP5.c19
  have hq5 := mayStand_any a.lb 0 16 (by omega) w5
  rw [f3] at hq5
  go_wp2_with fail
  refine hq5.mono ?_
  rintro e w6 ⟨rfl,hww⟩
  subst w6
  have hq6 := mayMark_any a ht4 w5 hA5
  rw [f4] at hq6
  go_wp2_with (refine wpList_load_want 36 _ rfl (by rfl) w.heap.size rfl 36 _ (0,0) _ hP5.row Tryz.underlying36 rfl (info34 a) ?_)
  refine hq6.mono ?_
  rintro e w6 ⟨rfl,hb6⟩
  have hP6 := hP5.below hb6 hP5.lt
  have hA6 := hA5.below hb6 (Nat.le_refl _)
  have hB6 := hB5.trans (hb6.mono hB5.size)
  have c1_6 := hP6.c19
  go_wp2_with fail
  have hsz : w.heap.size ≤ w1.heap.size := hB.size
  go_ret2
  exact hE.out _ _ (ownsRow_base (ownsRow_below (ownsRow_below (ownsRow_below (ownsRow_below hown hb3) hb4) hb5) hb6) hsz) hB6

end Go.Proofs.YtlgcnbomfhmjiaaGreatDoor

namespace Go.Proofs.YtlgcnbomfhmjiaaGreatDoor
open Go.RowKit Go.Shelf
set_option maxRecDepth 100000
set_option maxHeartbeats 4000000

def offs : List Sp → Nat → Int
 | _,0 => 0
 | [],_ + 1 => 0
 | r :: l,i + 1 => r.n + offs l i
def lkI : List Sp → Int → Nat
 | [],_ => 0
 | r :: l,k => if k < r.n then 0 else lkI l (k - r.n) + 1
theorem offs_zero (l : List Sp) : offs l 0 = 0 := by cases l <;> rfl
theorem offs_succ {l : List Sp} : ∀ {i : Nat} (h : i < l.length),offs l (i + 1) = offs l i + l[i].n := by
 induction l with
 | nil => intro i h; simp at h
 | cons r l ih =>
  intro i h
  cases i with
  | zero => simp [offs,offs_zero]
  | succ i =>
   have := ih (i := i) (by simpa using h)
   show r.n + offs l (i + 1) = r.n + offs l i + _
   rw [this]
   simp; omega
theorem spB_cons {r : Sp} {l : List Sp} {n : Int} (h : spB (r :: l) n = true) : (1 ≤ r.n ∧ r.n ≤ n ∧ chB r = true) ∧ spB l (n - r.n) = true := by
 unfold spB at h
 split at h
 ·rename_i h1; exact ⟨h1,h⟩
 ·cases h
theorem spB_all {l : List Sp} : ∀ {n : Int},spB l n = true → ∀ i (h : i < l.length),1 ≤ l[i].n ∧ chB l[i] = true ∧ l[i].n ≤ n := by
 induction l with
 | nil => intro n _ i h; simp at h
 | cons r l ih =>
  intro n h i hi
  obtain ⟨h1,h2⟩ := spB_cons h
  cases i with
  | zero => exact ⟨h1.1,h1.2.2,h1.2.1⟩
  | succ i =>
   have := ih h2 i (by simpa using hi)
   simp only [List.getElem_cons_succ]
   exact ⟨this.1,this.2.1,by omega⟩
theorem spB_total {l : List Sp} : ∀ {n : Int},spB l n = true → offs l l.length = n := by
 induction l with
 | nil => intro n h; simp [spB] at h; rw [h]; rfl
 | cons r l ih =>
  intro n h
  obtain ⟨h1,h2⟩ := spB_cons h
  show r.n + offs l l.length = n
  rw [ih h2]; omega
theorem offs_le {l : List Sp} {n : Int} (h : spB l n = true) {i j : Nat} (hij : i ≤ j) (hj : j ≤ l.length) : offs l i ≤ offs l j := by
 induction j with
 | zero => obtain rfl : i = 0 := by omega
           exact Int.le_refl _
 | succ j ih =>
  by_cases e : i = j + 1
  ·rw [e]; exact Int.le_refl _
  ·have := ih (by omega) (by omega)
   rw [offs_succ (show j < l.length by omega)]
   have := (spB_all h j (by omega)).1
   omega
theorem lk_uniq {l : List Sp} : ∀ {n : Int},spB l n = true → ∀ {i : Nat} {k : Int},(h : i < l.length) → offs l i ≤ k → k < offs l (i + 1) → lkI l k = i := by
 induction l with
 | nil => intro n _ i k h; simp at h
 | cons r l ih =>
  intro n h i k hi h0 h1
  obtain ⟨g1,g2⟩ := spB_cons h
  cases i with
  | zero =>
   have : k < r.n := by simpa [offs,offs_zero] using h1
   unfold lkI; rw [if_pos this]
  | succ i =>
   have e0 : offs (r :: l) (i + 1) = r.n + offs l i := rfl
   have e1 : offs (r :: l) (i + 1 + 1) = r.n + offs l (i + 1) := rfl
   have hi' : i < l.length := by simpa using hi
   have hp := offs_le g2 (Nat.zero_le i) (by omega)
   rw [offs_zero] at hp
   unfold lkI
   rw [if_neg (by omega),ih g2 hi' (by omega) (by omega)]
theorem lk_spec {l : List Sp} : ∀ {n : Int},spB l n = true → ∀ {k : Int},0 ≤ k → k < n → lkI l k < l.length ∧ offs l (lkI l k) ≤ k ∧ k < offs l (lkI l k + 1) := by
 induction l with
 | nil => intro n h k h0 h1; simp [spB] at h; omega
 | cons r l ih =>
  intro n h k h0 h1
  obtain ⟨g1,g2⟩ := spB_cons h
  unfold lkI
  by_cases hk : k < r.n
  ·rw [if_pos hk]; refine ⟨by simp,h0,?_⟩; simpa [offs,offs_zero] using hk
  ·rw [if_neg hk]
   obtain ⟨a,b,c⟩ := ih g2 (k := k - r.n) (by omega) (by omega)
   refine ⟨by simpa using a,?_,?_⟩
   ·show r.n + offs l _ ≤ k; omega
   ·show k < r.n + offs l _; omega
def sp0 : Sp := ⟨0,0,0,0⟩
def spAt (l : List Sp) (k : Int) : Sp := l.getD (lkI l k) sp0
def szAt (a : Pa) (k : Int) : Int := if (spAt a.sp k).s = 0 then a.p.p0 else (spAt a.sp k).s

structure LkAt (a : Pa) (F S Bp : Nat) (i : Nat) (W : World) : Prop where
 fr : Boxed W F 3 (.int .i64 (offs a.sp i))
 sp : ∃ b o cap,a.sv = .slice (some ⟨b,o,none⟩) a.sp.length cap ∧ b < W.heap.size ∧ a.sp.length ≤ cap ∧ b ≠ F ∧ b ≠ S ∧ Boxed W S 31 (.slice (some ⟨b,o + i * 4,none⟩) (a.sp.length - i) (cap - i)) ∧
  ∀ (j : Nat) (h : j < a.sp.length) (k : Nat) (u : Value),(spL a.sp[j])[k]? = some u → W.cell? ⟨b,o + j * 4 + k,none⟩ = some u
 pb : PB W Bp a
 ne : F ≠ S ∧ F ≠ Bp ∧ S ≠ Bp

def msr (F : Nat) (W : World) : Nat := match W.cell? ⟨F,0,none⟩ with
 | some v => (intOf v).toNat
 | none => 0
theorem msr_eq {F : Nat} {W : World} {t : TypeId} {x : Int} (h : Boxed W F t (.int .i64 x)) : msr F W = x.toNat := by
 unfold msr; rw [h.cell]; simp [intOf]
theorem boxed_turns {X : Nat → Prop} {W W' : World} {B : Nat} {t : TypeId} {v : Value} (h : Boxed W B t v) (ht : Turns X W W') (hX : ¬ X B) : Boxed W' B t v := (ht.block B h.lt hX).trans h
theorem cell_turns {X : Nat → Prop} {W W' : World} {b j : Nat} {u : Value} (h : W.cell? ⟨b,j,none⟩ = some u) (hb : b < W.heap.size) (ht : Turns X W W') (hX : ¬ X b) : W'.cell? ⟨b,j,none⟩ = some u := by
 rw [← h]
 unfold World.cell?
 rw [ht.block b hb hX]
theorem LkAt.step {a : Pa} {F S Bp i : Nat} {W W' : World} (h : LkAt a F S Bp i W) (ht : Turns (fun b => b = F ∨ b = S) W W') (h1 : Boxed W' F 3 (.int .i64 (offs a.sp (i + 1))))
  (h2 : ∀ b o cap,a.sv = .slice (some ⟨b,o,none⟩) a.sp.length cap → Boxed W' S 31 (.slice (some ⟨b,o + (i + 1) * 4,none⟩) (a.sp.length - (i + 1)) (cap - (i + 1)))) : LkAt a F S Bp (i + 1) W' := by
 obtain ⟨b,o,cap,hsv,hb,hc,n1,n2,hS,hcs⟩ := h.sp
 refine ⟨h1,⟨b,o,cap,hsv,Nat.lt_of_lt_of_le hb ht.size,hc,n1,n2,h2 b o cap hsv,fun j hj k u hu => cell_turns (hcs j hj k u hu) hb ht (by rintro (e | e); exact n1 e; exact n2 e)⟩,⟨(ht.block Bp h.pb.lt (by rintro (e | e); exact h.ne.2.1 e.symm; exact h.ne.2.2 e.symm)).trans h.pb.row⟩,h.ne⟩
theorem LkAt.turns {a : Pa} {F S Bp i : Nat} {W W' : World} {X : Nat → Prop} (h : LkAt a F S Bp i W) (ht : Turns X W W') (hF : ¬ X F) (hS : ¬ X S) (hB : ¬ X Bp) (hX : ∀ b o c,a.sv = .slice (some ⟨b,o,none⟩) a.sp.length c → ¬ X b) : LkAt a F S Bp i W' := by
 obtain ⟨b,o,cap,hsv,hb,hc,n1,n2,hS',hcs⟩ := h.sp
 exact ⟨boxed_turns h.fr ht hF,⟨b,o,cap,hsv,Nat.lt_of_lt_of_le hb ht.size,hc,n1,n2,boxed_turns hS' ht hS,fun j hj k u hu => cell_turns (hcs j hj k u hu) hb ht (hX b o cap hsv)⟩,⟨(ht.block Bp h.pb.lt hB).trans h.pb.row⟩,h.ne⟩

theorem set3 {w : World} {R : Nat} (h : w.heap[R]? = some (.cells #[.int .i64 0,.int .i64 0,.int .i64 0] 59 (0,0))) (x y z : Int) (o : Obj) :
  ((((w.setCell ⟨R,0,none⟩ (.int .i64 x)).setCell ⟨R,1,none⟩ (.int .i64 y)).setCell ⟨R,2,none⟩ (.int .i64 z)).alloc o).heap[R]? = some (.cells #[.int .i64 x,.int .i64 y,.int .i64 z] 59 (0,0)) ∧
  Turns (fun b => b = R) w ((((w.setCell ⟨R,0,none⟩ (.int .i64 x)).setCell ⟨R,1,none⟩ (.int .i64 y)).setCell ⟨R,2,none⟩ (.int .i64 z)).alloc o) := by
 have h1 := heap_setCell_same w R 0 _ 59 (.int .i64 x) h
 have h2 := heap_setCell_same _ R 1 _ 59 (.int .i64 y) h1
 have h3 := heap_setCell_same _ R 2 _ 59 (.int .i64 z) h2
 refine ⟨?_,?_⟩
 ·exact (Below.heap_alloc _ _ _ (Array.getElem?_eq_some_iff.1 h3).1).trans h3
 ·have t1 := Turns.setCell (X := fun b => b = R) w (p := ⟨R,0,none⟩) rfl (.int .i64 x)
  have t2 := Turns.setCell (X := fun b => b = R) (w.setCell ⟨R,0,none⟩ (.int .i64 x)) (p := ⟨R,1,none⟩) rfl (.int .i64 y)
  have t3 := Turns.setCell (X := fun b => b = R) ((w.setCell ⟨R,0,none⟩ (.int .i64 x)).setCell ⟨R,1,none⟩ (.int .i64 y)) (p := ⟨R,2,none⟩) rfl (.int .i64 z)
  exact ((t1.trans t2).trans t3).trans (Turns.alloc _ _ _)
theorem info49 : (Tryz.prog.info? 59).map (·.size) = some 3 := by kernel_rfl

theorem looks1_any (a : Pa) (hsp : spB a.sp a.t.size = true) (F S Bp i : Nat) (k : Nat) (hk : k < a.t.size) (ht : a.t.size ≤ 4096) (hi0 : i ≤ a.sp.length) (hik : offs a.sp i ≤ k) (w : World) (hL : LkAt a F S Bp i w) :
  Calls Tryz.prog 181 #[.int .i64 k,.pointer (some ⟨F,0,none⟩),.pointer (some ⟨S,0,none⟩),.pointer (some ⟨Bp,0,none⟩)] w fun e w' =>
   e = .returned (.agg #[.int .i64 (szAt a k),.int .i64 (spAt a.sp k).t,.int .i64 (spAt a.sp k).k]) ∧ LkAt a F S Bp (lkI a.sp k) w' ∧ Turns (fun b => b = F ∨ b = S) w w' := by
 have hB1 : Turns (fun b => b = F ∨ b = S) w (w.alloc (.cells #[.int .i64 0,.int .i64 0,.int .i64 0] 59)) := Turns.alloc _ _ _
 have hL1 : LkAt a F S Bp i (w.alloc (.cells #[.int .i64 0,.int .i64 0,.int .i64 0] 59)) := hL.turns (Turns.alloc Noth _ _) (fun h => h) (fun h => h) (fun h => h) (fun _ _ _ _ h => h)
 have hR1 : (w.alloc (.cells #[.int .i64 0,.int .i64 0,.int .i64 0] 59)).heap[w.heap.size]? = some (.cells #[.int .i64 0,.int .i64 0,.int .i64 0] 59 (0,0)) := World.alloc_heap_new w _
 have hFw : F < w.heap.size := hL.fr.lt
 have hSw : S < w.heap.size := by obtain ⟨b,o,cap,hsv,hb,hc,n1,n2,hS,hcs⟩ := hL.sp; exact hS.lt
 have hPw : Bp < w.heap.size := hL.pb.lt
 have hbw : Hid (∀ b o cap,a.sv = .slice (some ⟨b,o,none⟩) a.sp.length cap → b < w.heap.size) := by
  obtain ⟨b,o,cap,hsv,hb,hc,n1,n2,hS,hcs⟩ := hL.sp
  intro b' o' cap' e
  rw [hsv] at e
  cases e
  exact hb
 clear hL
 go_enter Tryz.func181,Tryz.ntmps181
 go_wp2_with fail
 go_loopw [14] (fun _ wr => ∃ j : Nat,j ≤ a.sp.length ∧ Hid (offs a.sp j ≤ k ∧ LkAt a F S Bp j wr) ∧ Turns (fun b => b = F ∨ b = S) w wr ∧ wr.heap[w.heap.size]? = some (.cells #[.int .i64 0,.int .i64 0,.int .i64 0] 59 (0,0))) (fun _ wr => 5000 - msr F wr)
 case atStart => exact ⟨i,hi0,⟨hik,hL1⟩,hB1,hR1⟩
 case round =>
  obtain ⟨j,hj,hh,hT,hR⟩ := hrel
  obtain ⟨hjk,hLj⟩ := hh.out
  have hjl : j < a.sp.length := by
   by_cases h : j < a.sp.length
   ·exact h
   ·obtain rfl : j = a.sp.length := by omega
    rw [spB_total hsp] at hjk
    omega
  have hn := spB_all hsp j hjl
  have hoj := offs_le hsp (Nat.zero_le j) hj
  rw [offs_zero] at hoj
  have hos := offs_succ hjl
  have hot := offs_le hsp (show j + 1 ≤ a.sp.length by omega) (Nat.le_refl _)
  rw [spB_total hsp] at hot
  obtain ⟨b,o,cap,hsv,hb,hc,n1,n2,hS,hcs⟩ := hLj.sp
  have cF := hLj.fr.cell
  have fF := hLj.fr.frozen
  have cS := hS.cell
  have fS := hS.frozen
  have c0 : wr.cell? ⟨b,o + j * 4,none⟩ = some (.int .i64 a.sp[j].n) := hcs j hjl 0 _ rfl
  have c1 : wr.cell? ⟨b,o + j * 4 + 1,none⟩ = some (.int .i64 a.sp[j].s) := hcs j hjl 1 _ rfl
  have c2 : wr.cell? ⟨b,o + j * 4 + 2,none⟩ = some (.int .i64 a.sp[j].t) := hcs j hjl 2 _ rfl
  have c3 : wr.cell? ⟨b,o + j * 4 + 3,none⟩ = some (.int .i64 a.sp[j].k) := hcs j hjl 3 _ rfl
  have cP := hLj.pb.c2
  have hm0 : Hid (msr F wr = (offs a.sp j).toNat) := msr_eq hLj.fr
  obtain ⟨x,hx⟩ : ∃ x,offs a.sp j = x := ⟨_,rfl⟩
  obtain ⟨n0,hn0⟩ : ∃ n0,a.sp[j].n = n0 := ⟨_,rfl⟩
  obtain ⟨off,hoff⟩ : ∃ off,o + j * 4 = off := ⟨_,rfl⟩
  obtain ⟨m,hm⟩ : ∃ m,a.sp.length - j = m := ⟨_,rfl⟩
  obtain ⟨cp,hcp⟩ : ∃ cp,cap - j = cp := ⟨_,rfl⟩
  have hm1 : (0 : Int) < m := by omega
  have hmc : m ≤ cp := by omega
  by_cases hge : x + n0 ≤ k
  ·have hm2 : (1 : Int) < m := by
    by_cases h : (1 : Int) < m
    ·exact h
    ·have e : j + 1 = a.sp.length := by omega
     rw [e,spB_total hsp] at hos
     omega
   rw [hx] at cF hoj hos hm0 hjk
   rw [hn0] at c0 hn hos
   rw [hoff] at c0 c1 c2 c3 cS
   rw [hm,hcp] at cS
   rw [hos] at hot
   have hL' : Hid (LkAt a F S Bp j wr) := hLj
   have ho1 : Hid (offs a.sp (j + 1) = x + n0) := hos
   have hS' : Hid (Boxed wr S 31 (.slice (some ⟨b,o + j * 4,none⟩) (a.sp.length - j) (cap - j))) := hS
   have hx' : Hid (offs a.sp j = x) := hx
   have hoff' : Hid (o + j * 4 = off) := hoff
   have hm' : Hid (a.sp.length - j = m) := hm
   have hcp' : Hid (cap - j = cp) := hcp
   have hsv' : Hid (a.sv = .slice (some ⟨b,o,none⟩) a.sp.length cap) := hsv
   clear hLj hh hos hS hcs hx hn0 hoff hm hcp hsv
   go_wp2_with fail
   go_quiet (fail)
   rename_i nq
   go_wp2_with fail
   go_region
   have hne : F ≠ S := hL'.out.ne.1
   have hW3 : Boxed ((wr.drewN (nq + 1)).setCell ⟨F,0,none⟩ (.int .i64 (x + n0))) S 31 (.slice (some ⟨b,off,none⟩) m cp) := by
    have h0 : Boxed wr S 31 (.slice (some ⟨b,o + j * 4,none⟩) (a.sp.length - j) (cap - j)) := hS'.out
    rw [hoff'.out,hm'.out,hcp'.out] at h0
    exact (Below.heap_setCell _ _ _ S hne.symm).trans h0
   have hF3 : Boxed ((wr.drewN (nq + 1)).setCell ⟨F,0,none⟩ (.int .i64 (x + n0))) F 3 (.int .i64 (x + n0)) := Boxed.set _ (show Boxed (wr.drewN (nq + 1)) F 3 _ from hL'.out.fr)
   have hT3 : Turns (fun b => b = F ∨ b = S) wr ((wr.drewN (nq + 1)).setCell ⟨F,0,none⟩ (.int .i64 (x + n0))) := (Turns.drewN _ wr _).trans (Turns.setCell _ (.inl rfl) _)
   have hW3' : Hid (Boxed ((wr.drewN (nq + 1)).setCell ⟨F,0,none⟩ (.int .i64 (x + n0))) S 31 (.slice (some ⟨b,off,none⟩) m cp)) := hW3
   have hF3' : Hid (Boxed ((wr.drewN (nq + 1)).setCell ⟨F,0,none⟩ (.int .i64 (x + n0))) F 3 (.int .i64 (x + n0))) := hF3
   have cS3 := hW3.cell
   have fS3 := hW3.frozen
   clear cF fF cS fS c0 c1 c2 c3 cP hW3 hF3
   generalize (wr.drewN (nq + 1)).setCell ⟨F,0,none⟩ (.int .i64 (x + n0)) = w3 at *
   have hcp1 : ¬ cp = 1 := by omega
   have hcp1' : ¬ (cp : Int) = 1 := by omega
   go_wp2_with fail
   have hS4 : Boxed (w3.setCell ⟨S,0,none⟩ (.slice (some ⟨b,off + 4,none⟩) (m - 1) (cp - 1))) S 31 (.slice (some ⟨b,off + 4,none⟩) (m - 1) (cp - 1)) := Boxed.set _ hW3'.out
   have hF4 : Boxed (w3.setCell ⟨S,0,none⟩ (.slice (some ⟨b,off + 4,none⟩) (m - 1) (cp - 1))) F 3 (.int .i64 (x + n0)) := (Below.heap_setCell _ _ _ F hne).trans hF3'.out
   have hT4 : Turns (fun b => b = F ∨ b = S) wr (w3.setCell ⟨S,0,none⟩ (.slice (some ⟨b,off + 4,none⟩) (m - 1) (cp - 1))) := hT3.trans (Turns.setCell _ (.inr rfl) _)
   generalize w3.setCell ⟨S,0,none⟩ (.slice (some ⟨b,off + 4,none⟩) (m - 1) (cp - 1)) = w4 at *
   have e1 : off + 4 = o + (j + 1) * 4 := by have := hoff'.out; omega
   have e2 : m - 1 = a.sp.length - (j + 1) := by have := hm'.out; omega
   have e3 : cp - 1 = cap - (j + 1) := by have := hcp'.out; omega
   rw [e1,e2,e3] at hS4
   refine ⟨⟨j + 1,by omega,⟨by rw [ho1.out]; exact hge,hL'.out.step hT4 (by rw [ho1.out]; exact hF4) ?_⟩,hT.trans hT4,?_⟩,?_⟩
   ·intro b' o' cap' e
    have := hsv'.out
    rw [this] at e
    cases e
    exact hS4
   ·exact (hT4.block _ (Array.getElem?_eq_some_iff.1 hR).1 (by rintro (e | e) <;> omega)).trans hR
   ·rw [hm0.out,msr_eq hF4]
    omega
  ·have hlk : lkI a.sp k = j := lk_uniq hsp hjl hjk (by rw [hos,hx,hn0]; omega)
   have hsa : spAt a.sp k = a.sp[j] := by unfold spAt; rw [hlk,List.getD_eq_getElem?_getD,List.getElem?_eq_getElem hjl]; rfl
   have hsz : Hid (szAt a k = if a.sp[j].s = 0 then a.p.p0 else a.sp[j].s) := by show szAt a k = _; unfold szAt; rw [hsa]
   rw [hx] at cF hoj
   rw [hn0] at c0 hn
   rw [hoff] at c0 c1 c2 c3 cS
   rw [hm,hcp] at cS
   have hL' : Hid (LkAt a F S Bp j wr) := hLj
   have hlk' : Hid (lkI a.sp k = j) := hlk
   have hsa' : Hid (spAt a.sp k = a.sp[j]) := hsa
   have hwlt : w.heap.size < wr.heap.size := (Array.getElem?_eq_some_iff.1 hR).1
   clear hLj hh hos hS hcs hn0 hoff hm hcp hsv hlk hsa hot
   have hge' : decide (n0 ≤ (k : Int) - x) = false := decide_eq_false (by omega)
   rw [hx] at hjk
   clear hx hm0
   have hend : Hid (∀ W',Turns (fun b => b = F ∨ b = S ∨ b = w.heap.size) wr W' → (∀ b,b = F ∨ b = S → W'.heap[b]? = wr.heap[b]?) → LkAt a F S Bp (lkI a.sp k) W' ∧ Turns (fun b => b = F ∨ b = S) w W') := fun W' hT' hsm => by
    rw [hlk'.out]
    have hT2 : Turns (fun b => b = w.heap.size) wr W' := ⟨hT'.os,hT'.tape,hT'.output,hT'.size,fun q hq hne => by
     by_cases e : q = F ∨ q = S
     ·exact hsm q e
     ·exact hT'.block q hq (by rintro (h | h | h); exact e (.inl h); exact e (.inr h); exact hne h)⟩
    refine ⟨hL'.out.turns hT2 (by omega) (by omega) (by omega) (fun b o c e => by have := hbw.out b o c e; omega),hT.trans' hT2 (fun q hq => .inr (by omega))⟩
   by_cases hs0 : a.sp[j].s = 0
   ·have hres : Hid (Value.agg #[.int .i64 (szAt a k),.int .i64 (spAt a.sp k).t,.int .i64 (spAt a.sp k).k] = .agg #[.int .i64 a.p.p0,.int .i64 a.sp[j].t,.int .i64 a.sp[j].k]) := by show Value.agg _ = _; rw [hsz.out,if_pos hs0,hsa'.out]
    rw [hs0] at c1
    clear hsz hs0 hn hsa' hlk'
    generalize a.sp[j].t = x2 at *
    generalize a.sp[j].k = x3 at *
    go_wp2_with fail
    go_quiet (fail)
    rename_i nq
    have hR' : (wr.drewN nq).heap[w.heap.size]? = some (.cells #[.int .i64 0,.int .i64 0,.int .i64 0] 59 (0,0)) := hR
    have hwlt' : w.heap.size < (wr.drewN nq).heap.size := hwlt
    have hend' : Hid (∀ W',Turns (fun b => b = F ∨ b = S ∨ b = w.heap.size) (wr.drewN nq) W' → (∀ b,b = F ∨ b = S → W'.heap[b]? = (wr.drewN nq).heap[b]?) → LkAt a F S Bp (lkI a.sp k) W' ∧ Turns (fun b => b = F ∨ b = S) w W') := fun W' h1 h2 => hend.out W' ⟨h1.os,h1.tape,h1.output,h1.size,h1.block⟩ h2
    have dS : (wr.drewN nq).cell? _ = _ := cS
    have d1 : (wr.drewN nq).cell? _ = _ := c1
    have d2 : (wr.drewN nq).cell? _ = _ := c2
    have d3 : (wr.drewN nq).cell? _ = _ := c3
    have dP : (wr.drewN nq).cell? _ = _ := cP
    have hFl : F < (wr.drewN nq).heap.size := by show F < wr.heap.size; omega
    have hSl : S < (wr.drewN nq).heap.size := by show S < wr.heap.size; omega
    have hPl : Bp < (wr.drewN nq).heap.size := by show Bp < wr.heap.size; omega
    clear hend cS c1 c2 c3 cP cF fF fS hR hwlt c0 hL' hb hT
    generalize wr.drewN nq = w2 at *
    have r0 : w2.cell? ⟨w.heap.size,0,none⟩ = some (.int .i64 0) := by rw [Lib.cell_of_heap hR']; rfl
    have r1 : w2.cell? ⟨w.heap.size,1,none⟩ = some (.int .i64 0) := by rw [Lib.cell_of_heap hR']; rfl
    have r2 : w2.cell? ⟨w.heap.size,2,none⟩ = some (.int .i64 0) := by rw [Lib.cell_of_heap hR']; rfl
    have g0 : w2.frozen? ⟨w.heap.size,0,none⟩ = false := Lib.frozen_of_heap hR' 0
    have g1 : w2.frozen? ⟨w.heap.size,1,none⟩ = false := Lib.frozen_of_heap hR' 1
    have g2 : w2.frozen? ⟨w.heap.size,2,none⟩ = false := Lib.frozen_of_heap hR' 2
    go_wp2_with fail
    obtain ⟨hA,hT5⟩ := set3 hR' a.p.p0 x2 x3 (.cells #[.int .i64 a.p.p0,.int .i64 x2,.int .i64 x3] 59)
    have hfin := hend'.out _ (hT5.mono (fun b hb => .inr (.inr hb))) (fun b hb => hT5.block b (by rcases hb with rfl | rfl <;> assumption) (by rcases hb with rfl | rfl <;> omega))
    refine bodyPost_ret (results_cell_row rfl _ _ w.heap.size 59 _ (0,0) _ rfl hA Tryz.underlying59 rfl info49) rfl ⟨?_,hfin⟩
    rw [hres.out]
   ·have hres : Hid (Value.agg #[.int .i64 (szAt a k),.int .i64 (spAt a.sp k).t,.int .i64 (spAt a.sp k).k] = .agg #[.int .i64 a.sp[j].s,.int .i64 a.sp[j].t,.int .i64 a.sp[j].k]) := by show Value.agg _ = _; rw [hsz.out,if_neg hs0,hsa'.out]
    have hs0' : (a.sp[j].s == 0) = false := by simpa using hs0
    clear hsz hs0 hn hsa' hlk'
    generalize a.sp[j].s = x1 at *
    generalize a.sp[j].t = x2 at *
    generalize a.sp[j].k = x3 at *
    go_wp2_with fail
    go_quiet (fail)
    rename_i nq
    have hR' : (wr.drewN nq).heap[w.heap.size]? = some (.cells #[.int .i64 0,.int .i64 0,.int .i64 0] 59 (0,0)) := hR
    have hwlt' : w.heap.size < (wr.drewN nq).heap.size := hwlt
    have hend' : Hid (∀ W',Turns (fun b => b = F ∨ b = S ∨ b = w.heap.size) (wr.drewN nq) W' → (∀ b,b = F ∨ b = S → W'.heap[b]? = (wr.drewN nq).heap[b]?) → LkAt a F S Bp (lkI a.sp k) W' ∧ Turns (fun b => b = F ∨ b = S) w W') := fun W' h1 h2 => hend.out W' ⟨h1.os,h1.tape,h1.output,h1.size,h1.block⟩ h2
    have dS : (wr.drewN nq).cell? _ = _ := cS
    have d1 : (wr.drewN nq).cell? _ = _ := c1
    have d2 : (wr.drewN nq).cell? _ = _ := c2
    have d3 : (wr.drewN nq).cell? _ = _ := c3
    have dP : (wr.drewN nq).cell? _ = _ := cP
    have hFl : F < (wr.drewN nq).heap.size := by show F < wr.heap.size; omega
    have hSl : S < (wr.drewN nq).heap.size := by show S < wr.heap.size; omega
    have hPl : Bp < (wr.drewN nq).heap.size := by show Bp < wr.heap.size; omega
    clear hend cS c1 c2 c3 cP cF fF fS hR hwlt c0 hL' hb hT
    generalize wr.drewN nq = w2 at *
    have r0 : w2.cell? ⟨w.heap.size,0,none⟩ = some (.int .i64 0) := by rw [Lib.cell_of_heap hR']; rfl
    have r1 : w2.cell? ⟨w.heap.size,1,none⟩ = some (.int .i64 0) := by rw [Lib.cell_of_heap hR']; rfl
    have r2 : w2.cell? ⟨w.heap.size,2,none⟩ = some (.int .i64 0) := by rw [Lib.cell_of_heap hR']; rfl
    have g0 : w2.frozen? ⟨w.heap.size,0,none⟩ = false := Lib.frozen_of_heap hR' 0
    have g1 : w2.frozen? ⟨w.heap.size,1,none⟩ = false := Lib.frozen_of_heap hR' 1
    have g2 : w2.frozen? ⟨w.heap.size,2,none⟩ = false := Lib.frozen_of_heap hR' 2
    go_wp2_with fail
    obtain ⟨hA,hT5⟩ := set3 hR' x1 x2 x3 (.cells #[.int .i64 x1,.int .i64 x2,.int .i64 x3] 59)
    have hfin := hend'.out _ (hT5.mono (fun b hb => .inr (.inr hb))) (fun b hb => hT5.block b (by rcases hb with rfl | rfl <;> assumption) (by rcases hb with rfl | rfl <;> omega))
    refine bodyPost_ret (results_cell_row rfl _ _ w.heap.size 59 _ (0,0) _ rfl hA Tryz.underlying59 rfl info49) rfl ⟨?_,hfin⟩
    rw [hres.out]

theorem looks_any (a : Pa) (w : World) (hA : PaAt w a) : Calls Tryz.prog 123 #[paV a] w fun e w' => ∃ F S Bp,e = .returned (.func (.func 181) #[] #[.pointer (some ⟨F,0,none⟩),.pointer (some ⟨S,0,none⟩),.pointer (some ⟨Bp,0,none⟩)]) ∧ (w.heap.size ≤ F ∧ w.heap.size ≤ S ∧ w.heap.size ≤ Bp ∧ F < w'.heap.size ∧ S < w'.heap.size ∧ Bp < w'.heap.size) ∧ (a.sp ≠ [] → LkAt a F S Bp 0 w') ∧ Below w.heap.size w w' := by
 have hB := (Below.refl w.heap.size w).alloc (Nat.le_refl _) (Obj.cells (paC a) 36)
 have hP := PB.new w a
 have c1 := hP.c1
 obtain ⟨ad,cap,hv,h2⟩ := hA.sp.ex
 have hle := hA.sp.le _ _ _ hv
 have hsz1 : (w.alloc (.cells (paC a) 36)).heap.size = w.heap.size + 1 := World.size_alloc _ _
 have hL : Hid (∀ W : World,W = (((w.alloc (.cells (paC a) 36)).alloc (.cells #[.slice ad a.sp.length cap] 31)).alloc (.cells #[.int .i64 0] 3)) → (a.sp ≠ [] → LkAt a (w.heap.size + 1 + 1) (w.heap.size + 1) w.heap.size 0 W) ∧ Below w.heap.size w W ∧ W.heap.size = w.heap.size + 3) := fun W hW => by
  subst hW
  have hB3 := (hB.alloc hB.size (.cells #[.slice ad a.sp.length cap] 31))
  have hB4 := hB3.alloc hB3.size (.cells #[.int .i64 0] 3)
  have q1 := Boxed.new (w.alloc (.cells (paC a) 36)) 31 (.slice ad a.sp.length cap)
  have q2 := q1.alloc (.cells #[.int .i64 0] 3)
  have q3 := Boxed.new ((w.alloc (.cells (paC a) 36)).alloc (.cells #[.slice ad a.sp.length cap] 31)) 3 (.int .i64 0)
  rw [World.size_alloc,hsz1] at q3
  rw [hsz1] at q2
  refine ⟨fun hne => ?_,hB4,by simp⟩
  rcases h2 with h2 | ⟨b,o,rfl,hb,hcs⟩
  ·exact absurd h2 hne
  ·refine ⟨by rw [offs_zero]; exact q3,⟨b,o,cap,hv,Nat.lt_of_lt_of_le hb hB4.size,hle,by omega,by omega,by simpa using q2,fun j hj k u hu => (hB4.cell hb).trans (hcs j hj k u hu)⟩,⟨?_⟩,by omega,by omega,by omega⟩
   exact (Below.heap_alloc _ _ _ (by simp; omega)).trans ((Below.heap_alloc _ _ _ (by simp)).trans hP.row)
 unfold paV
 rw [hv] at c1
 clear hP hA hv h2 hB
 generalize hw1 : w.alloc (.cells (paC a) 36) = w1 at *
 go_enter Tryz.func123,Tryz.ntmps123
 go_wp2_with fail
 go_ret
 obtain ⟨r1,r2,r3⟩ := hL.out _ rfl
 exact ⟨_,_,_,rfl,⟨by omega,by omega,by omega,by rw [r3]; omega,by rw [r3]; omega,by rw [r3]; omega⟩,r1,r2⟩
end Go.Proofs.YtlgcnbomfhmjiaaGreatDoor
