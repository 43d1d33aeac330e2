/-
  What is proved here: which blanks of a line are left out.
  What is proved here: of which size a line's hyphen is.
-/
import Derived.Test.YtbdpghjegachaaaGreatDoorE22
import Derived.Test.YtbdpghjegachaaaGreatDoorE1
import Derived.Test.YtbdpghjegachaaaGreatDoorE4
namespace Go.Proofs.YtbdpghjegachaaaGreatDoor
open Go.RowKit Go.Shelf
set_option maxRecDepth 100000
set_option maxHeartbeats 4000000

def toN (M : Nat → Ms) : Nat → Nat
 | 0 => 0
 | n + 1 => if (M n).k = 3 ∨ (M n).k = 5 then toN M n else n + 1
theorem toN_le (M : Nat → Ms) : ∀ n,toN M n ≤ n
 | 0 => Nat.le_refl _
 | n + 1 => by have := toN_le M n; unfold toN; split <;> omega
def frG (M : Nat → Ms) : Nat → Nat → Nat
 | 0,i => i
 | n + 1,i => if (M i).k = 3 then frG M n (i + 1) else i
theorem frG_le (M : Nat → Ms) : ∀ n i,i ≤ frG M n i ∧ frG M n i ≤ i + n
 | 0,i => ⟨Nat.le_refl _,Nat.le_refl _⟩
 | n + 1,i => by have := frG_le M n (i + 1); unfold frG; split <;> omega
def fwN (b : Bool) (M : Nat → Ms) (t : Nat) : Nat := if b = true then frG M t 0 else 0
theorem fwN_le (b : Bool) (M : Nat → Ms) (t : Nat) : fwN b M t ≤ t := by
 have := frG_le M t 0
 unfold fwN; split <;> omega
theorem slice48 (a : Option Addr) (n cap f t : Nat) (h1 : f ≤ t) (h2 : t ≤ cap) : ∃ a',(∀ W,(Instr.slice 48 (.slice a n cap) (some (.int .i64 (f : Int))) (some (.int .i64 (t : Int))) none).run Tryz.prog W = .ok (.slice a' (t - f) (cap - f)) W) ∧ (∀ b o,a = some ⟨b,o,none⟩ → f < t → a' = some ⟨b,o + f * 6,none⟩) := by
 have he : Tryz.prog.elem 48 = 53 := by kernel_rfl
 have hu : Tryz.prog.underlying 48 = some (.slice (Tryz.prog.elem 48)) := by rw [he]; exact Tryz.underlying48
 refine ⟨if cap = f then a else a.map (fun x => x.add (f * 6)),fun W => ?_,fun b o e hlt => ?_⟩
 ·have hr := run_slice_lh (P := Tryz.prog) (w := W) 48 a n cap hu .i64 .i64 f t (by omega) (by omega) (by omega)
  have hs : (sizeOf (Tryz.prog.elem 48)).run Tryz.prog W = .ok 6 W := by kernel_rfl
  rw [hs] at hr
  simpa only [Result.andThen,sliced,Int.toNat_natCast] using hr
 ·rw [if_neg (by omega),e]
  simp [addr_add]
theorem slice48h (a : Option Addr) (n cap t : Nat) (h2 : t ≤ cap) : ∃ a',(∀ W,(Instr.slice 48 (.slice a n cap) none (some (.int .i64 (t : Int))) none).run Tryz.prog W = .ok (.slice a' t cap) W) ∧ (∀ b o,a = some ⟨b,o,none⟩ → 0 < t → a' = some ⟨b,o,none⟩) := by
 have he : Tryz.prog.elem 48 = 53 := by kernel_rfl
 have hu : Tryz.prog.underlying 48 = some (.slice (Tryz.prog.elem 48)) := by rw [he]; exact Tryz.underlying48
 refine ⟨if cap = 0 then a else a.map (fun x => x.add (0 * 6)),fun W => ?_,fun b o e hlt => ?_⟩
 ·have hr := run_slice_h (P := Tryz.prog) (w := W) 48 a n cap hu .i64 t (by omega) (by omega)
  have hs : (sizeOf (Tryz.prog.elem 48)).run Tryz.prog W = .ok 6 W := by kernel_rfl
  rw [hs] at hr
  simpa only [Result.andThen,sliced,Int.toNat_natCast,Nat.sub_zero] using hr
 ·rw [if_neg (by omega),e]
  simp [addr_add]
theorem slice48l (a : Option Addr) (n cap f : Nat) (h1 : f ≤ n) (h2 : n ≤ cap) : ∃ a',(∀ W,(Instr.slice 48 (.slice a n cap) (some (.int .i64 (f : Int))) none none).run Tryz.prog W = .ok (.slice a' (n - f) (cap - f)) W) ∧ (∀ b o,a = some ⟨b,o,none⟩ → f < n → a' = some ⟨b,o + f * 6,none⟩) := by
 have he : Tryz.prog.elem 48 = 53 := by kernel_rfl
 have hu : Tryz.prog.underlying 48 = some (.slice (Tryz.prog.elem 48)) := by rw [he]; exact Tryz.underlying48
 refine ⟨if cap = f then a else a.map (fun x => x.add (f * 6)),fun W => ?_,fun b o e hlt => ?_⟩
 ·have hr := run_slice_l (P := Tryz.prog) (w := W) 48 a n cap hu .i64 f (by omega) (by omega)
  have hs : (sizeOf (Tryz.prog.elem 48)).run Tryz.prog W = .ok 6 W := by kernel_rfl
  rw [hs] at hr
  simpa only [Result.andThen,sliced,Int.toNat_natCast] using hr
 ·rw [if_neg (by omega),e]
  simp [addr_add]
section
variable {W : World} {r : Nat} {a b : Value} {x h m : Int} {l : Bool}
theorem RW.set1 (k : RW W r a b x h m l) (u : Value) : RW (W.setCell ⟨r,1,none⟩ u) r a u x h m l := ⟨heap_setCell_same W r 1 _ 60 u k.row⟩
theorem RW.set2 (k : RW W r a b x h m l) (u : Int) : RW (W.setCell ⟨r,2,none⟩ (.int .i64 u)) r a b u h m l := ⟨heap_setCell_same W r 2 _ 60 _ k.row⟩
theorem RW.set3 (k : RW W r a b x h m l) (u : Int) : RW (W.setCell ⟨r,3,none⟩ (.int .i64 u)) r a b x u m l := ⟨heap_setCell_same W r 3 _ 60 _ k.row⟩
theorem RW.set4 (k : RW W r a b x h m l) (u : Int) : RW (W.setCell ⟨r,4,none⟩ (.int .i64 u)) r a b x h u l := ⟨heap_setCell_same W r 4 _ 60 _ k.row⟩
end
theorem toN_yes {M : Nat → Ms} {j : Nat} (h : (M j).k = 3 ∨ (M j).k = 5) : toN M (j + 1) = toN M j := if_pos h
theorem toN_no {M : Nat → Ms} {j : Nat} (h : ¬ ((M j).k = 3 ∨ (M j).k = 5)) : toN M (j + 1) = j + 1 := if_neg h
theorem frG_yes {M : Nat → Ms} {n i : Nat} (h : (M i).k = 3) : frG M (n + 1) i = frG M n (i + 1) := if_pos h
theorem frG_no {M : Nat → Ms} {n i : Nat} (h : (M i).k ≠ 3) : frG M (n + 1) i = i := if_neg h
def LvEnd (w : World) (r g o N cap : Nat) (M : Nat → Ms) (a : Option Addr) (x hy rm : Int) (l : Bool) (t f : Nat) (w' : World) : Prop := Turns (fun k => XG g N k ∨ k = r) w w' ∧ RF w' g o N (narM (narM M 0 f) t (N - t)) ∧
   ∃ a' cap',RW w' r (.slice a N cap) (.slice a' (t - f) cap') x hy rm l ∧ (0 < t - f → a' = some ⟨g,o + f * 6,none⟩) ∧ t - f ≤ cap'
structure LvP (w : World) (r g o N cap : Nat) (M : Nat → Ms) (a : Option Addr) (x hy rm : Int) (l : Bool) (t f : Nat) : Prop where
 go : ∃ a6 a7 a8,(∀ W,(Instr.slice 48 (.slice a N cap) (some (.int .i64 (f : Int))) (some (.int .i64 (t : Int))) none).run Tryz.prog W = .ok (.slice a6 (t - f) (cap - f)) W) ∧
  (∀ W,(Instr.slice 48 (.slice a N cap) none (some (.int .i64 (f : Int))) none).run Tryz.prog W = .ok (.slice a7 f cap) W) ∧
  (∀ W,(Instr.slice 48 (.slice a N cap) (some (.int .i64 (t : Int))) none none).run Tryz.prog W = .ok (.slice a8 (N - t) (cap - t)) W) ∧
  (w.setCell ⟨r,1,none⟩ (.slice a6 (t - f) (cap - f))).cell? ⟨r,0,none⟩ = some (.slice a N cap) ∧
  Hid (Calls Tryz.prog 54 #[.slice a7 f cap] (w.setCell ⟨r,1,none⟩ (.slice a6 (t - f) (cap - f))) fun e w2 => e = .returned (.tuple #[]) ∧ w2.cell? ⟨r,0,none⟩ = some (.slice a N cap) ∧
   Hid (Calls Tryz.prog 54 #[.slice a8 (N - t) (cap - t)] w2 fun e w3 => e = .returned (.tuple #[]) ∧ Hid (LvEnd w r g o N cap M a x hy rm l t f w3)))
theorem LvP.of {w : World} {r g o N cap : Nat} {M : Nat → Ms} {a : Option Addr} (ha : 0 < N → a = some ⟨g,o,none⟩) (hcap : N ≤ cap) (hN : N ≤ 4096) {vb : Value} {x hy rm : Int} {l : Bool} (hR : RF w g o N M) (hW : RW w r (.slice a N cap) vb x hy rm l) (hrg : ¬ XG g N r) {t f : Nat} (ht : t ≤ N) (hf : f ≤ t) : LvP w r g o N cap M a x hy rm l t f := by
 obtain ⟨a6,h6,k6⟩ := slice48 a N cap f t hf (by omega)
 obtain ⟨a7,h7,k7⟩ := slice48h a N cap f (by omega)
 obtain ⟨a8,h8,k8⟩ := slice48l a N cap t ht hcap
 have hT1 := Turns.setCell (X := fun k => k = r) w (p := ⟨r,1,none⟩) rfl (.slice a6 (t - f) (cap - f))
 have hW1 := hW.set1 (.slice a6 (t - f) (cap - f))
 have hR1 := hR.turns hT1 (fun hN e => hrg ⟨e.symm,hN⟩)
 have hT1' := hT1.mono (Y := fun k => XG g N k ∨ k = r) fun k e => .inr e
 refine ⟨⟨a6,a7,a8,h6,h7,h8,hW1.c.1,?_⟩⟩
 generalize w.setCell ⟨r,1,none⟩ (.slice a6 (t - f) (cap - f)) = w1 at *
 refine (narrow_any w1 g o N M 0 f cap o (by show o = o + 0 * 6; omega) (by omega) hN (by omega) a7 (fun h => k7 g o (ha (by omega)) h) hR1).mono ?_
 rintro e w2 ⟨rfl,hT2,_,hR2⟩
 have hW2 := hW1.turns hT2 hrg
 refine ⟨rfl,hW2.c.1,?_⟩
 refine (narrow_any w2 g o N _ t (N - t) (cap - t) (o + t * 6) rfl (by omega) hN (by omega) a8 (fun h => k8 g o (ha (by omega)) (by omega)) hR2).mono ?_
 rintro e w3 ⟨rfl,hT3,_,hR3⟩
 exact ⟨rfl,(hT1'.trans (hT2.mono fun k e => .inl e)).trans (hT3.mono fun k e => .inl e),hR3,a6,cap - f,hW2.turns hT3 hrg,fun h => k6 g o (ha (by omega)) (by omega),by omega⟩
theorem leave_any (w : World) (r g o N cap : Nat) (M : Nat → Ms) (a : Option Addr) (ha : 0 < N → a = some ⟨g,o,none⟩) (hcap : N ≤ cap) (hN : N ≤ 4096) (vb : Value) (x hy rm : Int) (l first : Bool) (hR : RF w g o N M) (hW : RW w r (.slice a N cap) vb x hy rm l) (hrg : ¬ XG g N r) :
  Calls Tryz.prog 26 #[.pointer (some ⟨r,0,none⟩),.bool first] w fun e w' => e = .returned (.tuple #[]) ∧ LvEnd w r g o N cap M a x hy rm l (toN M N) (fwN first M (toN M N)) w' := by
 have hN' : (N : Int) ≤ 4096 := by omega
 obtain ⟨c0,c1,_,_,_,_⟩ := hW.c
 have z1 := hW.z 1
 have hRh : Hid (RF w g o N M) := hR
 have hWh : Hid (RW w r (.slice a N cap) vb x hy rm l) := hW
 clear hR hW
 go_enter Tryz.func26,Tryz.ntmps26
 go_wp2_with fail
 go_loopw [4] (fun i wr => ∃ k : Nat,k ≤ N ∧ i = .int .i64 k ∧ wr = w ∧ Hid (toN M N = toN M k)) (fun i _ => (intOf i).toNat)
 case atStart => exact ⟨N,Nat.le_refl _,rfl,rfl,rfl⟩
 case round =>
  obtain ⟨t,ht,rfl,hwr,hI⟩ := hrel
  subst wr
  by_cases ht0 : 0 < t
  ·obtain ⟨j,hj⟩ : ∃ j,t = j + 1 := ⟨t - 1,by omega⟩
   have hjl : j < N := by omega
   have haa := ha (by omega)
   have m2 := (hRh.out.c hjl).2.2.1
   have ej : (t : Int) - 1 = (j : Nat) := by omega
   have ht0' : (0 : Int) < (t : Nat) := by omega
   have hjN : (j : Int) < (N : Nat) := by omega
   by_cases h35 : (M j).k = 3 ∨ (M j).k = 5
   ·have hI2 : Hid (toN M N = toN M j) := (by rw [hI.out,hj,toN_yes h35] : toN M N = toN M j)
    have hjh : Hid (t = j + 1) := hj
    obtain rfl := haa
    clear hI hRh hWh hj
    by_cases h3 : (M j).k = 3
    ·have h3' : ((M j).k == 3) = true := by simpa using h3
     clear h35
     generalize (M j).k = kj at *
     go_wp2_with fail
     exact ⟨⟨j,by omega,by simp,trivial,hI2⟩,by have := hjh.out; simp [intOf]; omega⟩
    ·have h5 : (M j).k = 5 := h35.resolve_left h3
     have h3' : ((M j).k == 3) = false := by simpa using h3
     have h5' : ((M j).k == 5) = true := by simpa using h5
     clear h35
     generalize (M j).k = kj at *
     go_wp2_with fail
     exact ⟨⟨j,by omega,by simp,trivial,hI2⟩,by have := hjh.out; simp [intOf]; omega⟩
   ·replace hI : Hid (toN M N = t) := (by rw [hI.out,hj,toN_no h35] : toN M N = t)
    have h3' : ((M j).k == 3) = false := by simpa using fun h => h35 (.inl h)
    have h5' : ((M j).k == 5) = false := by simpa using fun h => h35 (.inr h)
    obtain rfl := haa
    clear h35 hj
    replace ha : Hid (0 < N → (some ⟨g,o,none⟩ : Option Addr) = some ⟨g,o,none⟩) := fun _ => rfl
    generalize (M j).k = kj at m2 h3' h5'
    go_wp2_with fail
    clear ha
    go_loopw [5] (fun i wr => ∃ k : Nat,k ≤ t ∧ i = .int .i64 k ∧ wr = w ∧ Hid (fwN first M t = if first = true then frG M (t - k) k else k)) (fun i _ => t - (intOf i).toNat)
    case atStart => exact ⟨0,by omega,rfl,rfl,(by unfold fwN; rw [Nat.sub_zero] : fwN first M t = if first = true then frG M (t - 0) 0 else 0)⟩
    case round =>
     obtain ⟨f,hf,rfl,hwr,hJ⟩ := hrel
     subst wr
     cases hfst : first
     ·rw [hfst] at hJ
      replace hJ : Hid (fwN false M t = f) := hJ.out.trans (if_neg (by simp))
      subst hfst
      have hP : LvP w r g o N cap M (some ⟨g,o,none⟩) x hy rm l t f := LvP.of (fun _ => rfl) hcap hN hRh.out hWh.out hrg (by omega) (by omega)
      have hfin : Hid (∀ w3,LvEnd w r g o N cap M (some ⟨g,o,none⟩) x hy rm l t f w3 → LvEnd w r g o N cap M (some ⟨g,o,none⟩) x hy rm l (toN M N) (fwN false M (toN M N)) w3) := fun w3 h => by rw [hI.out,hJ.out]; exact h
      obtain ⟨a6,a7,a8,h6,h7,h8,d0,hc1⟩ := hP.go
      clear hP hRh hWh hI hJ
      go_wp2_with (go_at_call 54; first | (with_reducible refine hc1.out.mono ?_; rintro e w2 ⟨rfl,d2,hc2⟩; clear hc1) | (with_reducible refine hc2.out.mono ?_; rintro e w3 ⟨rfl,hE⟩; clear hc2))
      exact bodyPost_end (v := .tuple #[]) (by kernel_rfl) rfl ⟨rfl,hfin.out _ hE.out⟩
     ·rw [hfst] at hJ
      replace hJ : Hid (fwN true M t = frG M (t - f) f) := hJ.out.trans (if_pos rfl)
      subst hfst
      by_cases hlt2 : f < t
      ·skip
       have hlt2' : (f : Int) < (t : Nat) := by omega
       have n2 := (hRh.out.c (show f < N by omega)).2.2.1
       have e0 : t - f = (t - (f + 1)) + 1 := by omega
       by_cases h3 : (M f).k = 3
       ·have hJ2 : Hid (fwN true M t = if (true : Bool) = true then frG M (t - (f + 1)) (f + 1) else f + 1) := (by rw [if_pos rfl,← frG_yes h3,← e0]; exact hJ.out : fwN true M t = if (true : Bool) = true then frG M (t - (f + 1)) (f + 1) else f + 1)
        have h3' : ((M f).k == 3) = true := by simpa using h3
        clear hRh hWh hI hJ e0
        generalize (M f).k = kf at *
        go_wp2_with fail
        exact ⟨⟨f + 1,by omega,by simp,trivial,hJ2⟩,by simp [intOf]; omega⟩
       ·replace hJ : Hid (fwN true M t = f) := (by rw [hJ.out,e0,frG_no h3] : fwN true M t = f)
        have h3' : ((M f).k == 3) = false := by simpa using h3
        clear e0
        have hP : LvP w r g o N cap M (some ⟨g,o,none⟩) x hy rm l t f := LvP.of (fun _ => rfl) hcap hN hRh.out hWh.out hrg (by omega) (by omega)
        have hfin : Hid (∀ w3,LvEnd w r g o N cap M (some ⟨g,o,none⟩) x hy rm l t f w3 → LvEnd w r g o N cap M (some ⟨g,o,none⟩) x hy rm l (toN M N) (fwN true M (toN M N)) w3) := fun w3 h => by rw [hI.out,hJ.out]; exact h
        obtain ⟨a6,a7,a8,h6,h7,h8,d0,hc1⟩ := hP.go
        clear hP h3 hRh hWh hI hJ
        generalize (M f).k = kf at *
        go_wp2_with (go_at_call 54; first | (with_reducible refine hc1.out.mono ?_; rintro e w2 ⟨rfl,d2,hc2⟩; clear hc1) | (with_reducible refine hc2.out.mono ?_; rintro e w3 ⟨rfl,hE⟩; clear hc2))
        exact bodyPost_end (v := .tuple #[]) (by kernel_rfl) rfl ⟨rfl,hfin.out _ hE.out⟩
      ·have hfe : f = t := by omega
       replace hJ : Hid (fwN true M t = f) := (by rw [hJ.out,hfe,Nat.sub_self]; rfl : fwN true M t = f)
       have hlt2' : ¬ (f : Int) < (t : Nat) := by omega
       replace hfe : Hid (f = t) := hfe
       have hP : LvP w r g o N cap M (some ⟨g,o,none⟩) x hy rm l t f := LvP.of (fun _ => rfl) hcap hN hRh.out hWh.out hrg (by omega) (by omega)
       have hfin : Hid (∀ w3,LvEnd w r g o N cap M (some ⟨g,o,none⟩) x hy rm l t f w3 → LvEnd w r g o N cap M (some ⟨g,o,none⟩) x hy rm l (toN M N) (fwN true M (toN M N)) w3) := fun w3 h => by rw [hI.out,hJ.out]; exact h
       obtain ⟨a6,a7,a8,h6,h7,h8,d0,hc1⟩ := hP.go
       clear hP hRh hWh hI hJ
       go_wp2_with (go_at_call 54; first | (with_reducible refine hc1.out.mono ?_; rintro e w2 ⟨rfl,d2,hc2⟩; clear hc1) | (with_reducible refine hc2.out.mono ?_; rintro e w3 ⟨rfl,hE⟩; clear hc2))
       exact bodyPost_end (v := .tuple #[]) (by kernel_rfl) rfl ⟨rfl,hfin.out _ hE.out⟩
  ·have ht0' : ¬ (0 : Int) < (t : Nat) := by omega
   replace hI : Hid (toN M N = t) := hI.out.trans (by rw [show t = 0 by omega]; rfl)
   go_wp2_with fail
   go_loopw [5] (fun i wr => ∃ k : Nat,k ≤ t ∧ i = .int .i64 k ∧ wr = w ∧ Hid (fwN first M t = if first = true then frG M (t - k) k else k)) (fun i _ => t - (intOf i).toNat)
   case atStart => exact ⟨0,by omega,rfl,rfl,(by unfold fwN; rw [Nat.sub_zero] : fwN first M t = if first = true then frG M (t - 0) 0 else 0)⟩
   case round =>
    obtain ⟨f,hf,rfl,hwr,hJ⟩ := hrel
    subst wr
    cases hfst : first
    ·rw [hfst] at hJ
     replace hJ : Hid (fwN false M t = f) := hJ.out.trans (if_neg (by simp))
     subst hfst
     have hP : LvP w r g o N cap M a x hy rm l t f := LvP.of ha hcap hN hRh.out hWh.out hrg (by omega) (by omega)
     have hfin : Hid (∀ w3,LvEnd w r g o N cap M a x hy rm l t f w3 → LvEnd w r g o N cap M a x hy rm l (toN M N) (fwN false M (toN M N)) w3) := fun w3 h => by rw [hI.out,hJ.out]; exact h
     obtain ⟨a6,a7,a8,h6,h7,h8,d0,hc1⟩ := hP.go
     clear hP hRh hWh hI hJ
     go_wp2_with (go_at_call 54; first | (with_reducible refine hc1.out.mono ?_; rintro e w2 ⟨rfl,d2,hc2⟩; clear hc1) | (with_reducible refine hc2.out.mono ?_; rintro e w3 ⟨rfl,hE⟩; clear hc2))
     exact bodyPost_end (v := .tuple #[]) (by kernel_rfl) rfl ⟨rfl,hfin.out _ hE.out⟩
    ·rw [hfst] at hJ
     replace hJ : Hid (fwN true M t = frG M (t - f) f) := hJ.out.trans (if_pos rfl)
     subst hfst
     by_cases hlt2 : f < t
     ·exact absurd hlt2 (by omega)
     ·have hfe : f = t := by omega
      replace hJ : Hid (fwN true M t = f) := (by rw [hJ.out,hfe,Nat.sub_self]; rfl : fwN true M t = f)
      have hlt2' : ¬ (f : Int) < (t : Nat) := by omega
      replace hfe : Hid (f = t) := hfe
      have hP : LvP w r g o N cap M a x hy rm l t f := LvP.of ha hcap hN hRh.out hWh.out hrg (by omega) (by omega)
      have hfin : Hid (∀ w3,LvEnd w r g o N cap M a x hy rm l t f w3 → LvEnd w r g o N cap M a x hy rm l (toN M N) (fwN true M (toN M N)) w3) := fun w3 h => by rw [hI.out,hJ.out]; exact h
      obtain ⟨a6,a7,a8,h6,h7,h8,d0,hc1⟩ := hP.go
      clear hP hRh hWh hI hJ
      go_wp2_with (go_at_call 54; first | (with_reducible refine hc1.out.mono ?_; rintro e w2 ⟨rfl,d2,hc2⟩; clear hc1) | (with_reducible refine hc2.out.mono ?_; rintro e w3 ⟨rfl,hE⟩; clear hc2))
      exact bodyPost_end (v := .tuple #[]) (by kernel_rfl) rfl ⟨rfl,hfin.out _ hE.out⟩
end Go.Proofs.YtbdpghjegachaaaGreatDoor

namespace Go.Proofs.YtbdpghjegachaaaGreatDoor
open Go.RowKit Go.Shelf
set_option maxRecDepth 100000
set_option maxHeartbeats 4000000
attribute [local go_sem] Oper.semAt_some wide_fn wide_depth

theorem steady_boxS {w₁ : World} {own : Nat → Prop} {B : Nat} (hB : B < w₁.heap.size) (o : Nat → Obj) : Steady (fun i X W => Base w₁ own X W ∧ W.heap[B]? = some (o i)) :=
 fun _ _ _ _ _ hs ht hx => ⟨hs.1.step ht hx,(hs.1.keep ht hB).trans hs.2⟩
theorem Steady.pure (p : Nat → Prop) : Steady (fun i _ _ => p i) := fun _ _ _ _ _ hs _ _ => hs
theorem allocs3 (w : World) (a b c : Obj) : (((w.alloc a).alloc b).alloc c).heap[w.heap.size]? = some a ∧ (((w.alloc a).alloc b).alloc c).heap[w.heap.size + 1]? = some b ∧ (((w.alloc a).alloc b).alloc c).heap[w.heap.size + 2]? = some c := by
 refine ⟨?_,?_,?_⟩ <;> (show (((w.heap.push a).push b).push c)[_]? = _; simp only [Array.getElem?_push,Array.size_push]; repeat (first | rw [if_pos trivial] | rw [if_pos (by omega)] | rw [if_neg (by omega)]))
theorem run_loadVar_one {P : Program} (w : World) (ty : TypeId) (v : Value) (g : Nat) (hA : (isAgg ty).run P w = .ok false w) (hc : w.cell? ⟨g,0,none⟩ = some v) : (loadVar ty ⟨g,0,none⟩).run P w = .ok v w := by
 simp [loadVar,Sem.run_bind,hA,hc,go_sem]
theorem results_cells1 {P : Program} {fn : Func} {p : Tmp} {t : TypeId} (h : fn.results = #[.cell p t]) (tmps : Array Value) (w : World) (g : Nat) (x : Value)
  (hp : tmps.getD p undef = .pointer (some ⟨g,0,none⟩)) (hA : (isAgg t).run P w = .ok false w)
  (hx : w.cell? ⟨g,0,none⟩ = some x) : (results fn tmps).run P w = .ok x w := by
 have hp' : tmps[p]?.getD undef = .pointer (some ⟨g,0,none⟩) := by simpa using hp
 simp [results,h,hp',asAddr,run_loadVar_one w t x g hA hx]
theorem agg_no {P : Program} {t : TypeId} {d : TypeDesc} (hu : P.underlying t = some d) (hd : (match d with | .struct _ | .array _ _ => true | _ => false) = false) (w : World) : (isAgg t).run P w = .ok false w := by
 unfold isAgg
 rw [Sem.run_bind,run_underlying hu w]
 cases d <;> simp_all
theorem heap_put {W : World} {D k : Nat} (h : k ≠ D) (o : Obj) : (W.putObj D o).heap[k]? = W.heap[k]? := World.putObj_heap_other h

def hsI (M : Nat → Ms) (z : Int) : Nat → Int
 | 0 => z
 | n + 1 => if (M n).k = 3 then hsI M z n else (M n).s
theorem hs_yes {M : Nat → Ms} {z : Int} {n : Nat} (h : (M n).k = 3) : hsI M z (n + 1) = hsI M z n := if_pos h
theorem hs_no {M : Nat → Ms} {z : Int} {n : Nat} (h : (M n).k ≠ 3) : hsI M z (n + 1) = (M n).s := if_neg h
theorem backward_any (a : Option Addr) (n cap : Nat) (w : World) : Calls Tryz.prog 60 #[.slice a n cap] w fun e w' => e = .returned (.func (.func 102) #[] #[.pointer (some ⟨w.heap.size,0,none⟩)]) ∧ w' = w.alloc (.cells #[.slice a n cap] 48) := by
 go_enter Tryz.func60,Tryz.ntmps60
 go_wp2
 go_ret
 exact ⟨rfl,rfl⟩
structure ReadM (Bt : Nat) (a : Option Addr) (N cap g o : Nat) (M : Nat → Ms) (W : World) : Prop where
 box : W.heap[Bt]? = some (.cells #[.slice a N cap] 48 (0,0))
 ms : RF W g o N M
theorem ReadM.turns {Bt : Nat} {a : Option Addr} {N cap g o : Nat} {M : Nat → Ms} {W W' : World} {own : Nat → Prop} (h : ReadM Bt a N cap g o M W) (ht : Turns own W W') (h1 : ¬ own Bt) (h2 : 0 < N → ¬ own g) : ReadM Bt a N cap g o M W' :=
 ⟨(ht.block _ (Array.getElem?_eq_some_iff.1 h.box).1 h1).trans h.box,h.ms.turns ht h2⟩
def encM (M : Nat → Ms) (N i : Nat) : Array Value := #[.int .i64 ((N - 1 - i : Nat) : Int),.agg (msL (M (N - 1 - i))).toArray]
theorem backward1_gives (Bt : Nat) (a : Option Addr) (N cap g o : Nat) (M : Nat → Ms) (hN : N ≤ 4096) (hcap : N ≤ cap) (ha : 0 < N → a = some ⟨g,o,none⟩) :
  Gives Tryz.prog 102 #[.pointer (some ⟨Bt,0,none⟩)] N (encM M N) (ReadM Bt a N cap g o M) := by
 intro l J Jx W hJ hJx hRd hY h0
 have hb0 := (hRd _ _ _ h0).box
 have hc0 : W.cell? ⟨Bt,0,none⟩ = some (.slice a N cap) := by rw [Lib.cell_of_heap hb0]; rfl
 have hN' : (N : Int) ≤ 4096 := by omega
 refine callsIn_wide (n := 0).1 ?_
 refine callsIn_of_wp Tryz.func102 rfl trivial ?_ rfl
 simp only [Tryz.ntmps102,List.size_toArray,List.length_cons,List.length_nil,Nat.reduceAdd,Nat.reduceSub,Array.replicate_succ,Array.replicate_zero,List.push_toArray,List.append_toArray,List.nil_append,List.cons_append]
 gi_wp2
 gi_loopw [3] (fun p wr => ∃ (k : Nat) (X : Nat → Prop),k ≤ N ∧ p = .int .i64 ((N : Int) - 1 - k) ∧ J k X wr) (fun p _ => (intOf p + 1).toNat)
 case atStart => exact ⟨0,Noth,Nat.zero_le _,by simp,h0⟩
 case round =>
  obtain ⟨k,X,hk,rfl,hJs⟩ := hrel
  have hbx := (hRd _ _ _ hJs).box
  have hcb : wr.cell? ⟨Bt,0,none⟩ = some (.slice a N cap) := by rw [Lib.cell_of_heap hbx]; rfl
  by_cases hlt : k < N
  ·obtain rfl := ha (by omega)
   obtain ⟨i,hi⟩ : ∃ i : Nat,i = N - 1 - k := ⟨_,rfl⟩
   have hii : (N : Int) - 1 - k = (i : Nat) := by omega
   have hiN : i < N := by omega
   have hiN' : (i : Int) < N := by omega
   have hi0 : (0 : Int) ≤ (i : Nat) := by omega
   have hc := (hRd _ _ _ hJs).ms.c hiN
   obtain ⟨m0,m1,m2,m3,m4,m5⟩ := hc
   have hYk := hY k _ _ hlt hJs
   have hen : encM M N k = #[.int .i64 (i : Int),.agg #[.int .i64 (M i).f,.int .i64 (M i).t,.int .i64 (M i).k,.int .i64 (M i).s,.int .i64 (M i).w,.int .i64 (M i).q]] := by unfold encM; rw [← hi]; rfl
   rw [hen] at hYk
   rw [hii]
   have hih : Hid (i = N - 1 - k) := hi
   clear hen hRd hbx hi
   obtain ⟨fn,tmps,assign,body,hy,hR⟩ := hYk
   generalize M i = mm at *
   obtain ⟨x0,x1,x2,x3,x4,x5⟩ := mm
   gi_wp2
   refine hR.mono ?_
   rintro e W3 ⟨hk3,(⟨rfl,hJ3⟩ | ⟨rfl,hJx3⟩)⟩
   ·gi_wp2
    exact ⟨⟨k + 1,_,by omega,by congr 1; omega,hJ3⟩,by simp [intOf]⟩
   ·gi_wp2
    refine bodyPost_ret (results_none rfl _ _ _) rfl ?_
    exact ⟨⟨_,rfl⟩,.inr ⟨k,hlt,hJx _ _ _ _ _ hJx3 (Turns.refl _ _) (fun _ h => h.elim)⟩⟩
  ·have hkn : k = N := by omega
   have hJe : J N Noth wr := hkn ▸ hJ _ _ _ _ _ hJs (Turns.refl _ _) (fun _ h => h.elim)
   subst hkn
   have hneg : ((k : Int) - 1 - k) = -1 := by omega
   rw [hneg]
   gi_wp2
   go_end0
   exact ⟨⟨_,rfl⟩,.inl hJe⟩
theorem hyphenSize_any (p : Pa) (w : World) (r g o N cap : Nat) (M : Nat → Ms) (a : Option Addr) (ha : 0 < N → a = some ⟨g,o,none⟩) (hcap : N ≤ cap) (hN : N ≤ 4096) (vb : Value) (x hy rm : Int) (l : Bool) (hR : RF w g o N M) (hW : RW w r (.slice a N cap) vb x hy rm l) :
  Calls Tryz.prog 29 #[.pointer (some ⟨r,0,none⟩),paV p] w fun e w' => e = .returned (.int .i64 (hsI M p.p.p0 N)) ∧ Below w.heap.size w w' := by
 have hrl := hW.lt
 have hgl := hR.lt
 have hrw := hW.row
 have hrz : Hid (∀ W : World,W.heap[r]? = w.heap[r]? → W.cell? ⟨r,0,none⟩ = some (.slice a N cap)) := fun W e => by rw [Lib.cell_of_heap (e.trans hrw)]; rfl
 obtain ⟨w1,hw1⟩ : ∃ w1,((w.alloc (.cells (paC p) 27)).alloc (.cells #[.int .i64 0] 3)).alloc (.cells #[.slice a N cap] 48) = w1 := ⟨_,rfl⟩
 have c0 : ((w.alloc (.cells (paC p) 27)).alloc (.cells #[.int .i64 0] 3)).cell? ⟨r,0,none⟩ = some (.slice a N cap) := hrz.out _ ((Below.heap_alloc _ _ _ (by simp; omega)).trans (Below.heap_alloc _ _ _ hrl))
 have hs1 : w1.heap.size = w.heap.size + 3 := by rw [← hw1]; simp
 have hT1 : Turns Noth w w1 := by rw [← hw1]; exact ((Turns.alloc _ _ _).trans (Turns.alloc _ _ _)).trans (Turns.alloc _ _ _)
 obtain ⟨hB0,hB1,hB2⟩ := allocs3 w (.cells (paC p) 27) (.cells #[.int .i64 0] 3) (.cells #[.slice a N cap] 48)
 rw [hw1] at hB0 hB1 hB2
 have hRd : ReadM (w.heap.size + 1 + 1) a N cap g o M w1 := ⟨hB2,hR.turns hT1 (fun _ h => h.elim)⟩
 have hbk := fun W => backward_any a N cap W
 clear hW hR hrw
 unfold paV
 refine callsIn_wide (n := 0).1 ?_
 refine callsIn_of_wp_marks Tryz.func29 rfl trivial ?_ rfl
 simp only [Tryz.ntmps29,List.size_toArray,List.length_cons,List.length_nil,Nat.reduceAdd,Nat.reduceSub,Array.replicate_succ,Array.replicate_zero,List.push_toArray,List.append_toArray,List.nil_append,List.cons_append]
 gi_wp2_with (gi_at_call 60; refine (callsIn_wide.2 (hbk _)).mono ?_; rintro e w' ⟨rfl,rfl⟩)
 refine wp_range (gf := 102) (lb := #[.pointer (some ⟨w.heap.size + 1 + 1,0,none⟩)]) rfl (enters_of Tryz.func102 (by kernel_rfl) rfl) (backward1_gives (w.heap.size + 1 + 1) a N cap g o M hN hcap ha) (fun _ => rfl)
  (fun j X W => (Base w1 (fun k => k = w.heap.size + 1) X W ∧ W.heap[w.heap.size + 1]? = some (.cells #[.int .i64 0] 3)) ∧ Hid (hsI M p.p.p0 N = hsI M p.p.p0 (N - j)))
  (fun c j X W => (Base w1 (fun k => k = w.heap.size + 1) X W ∧ W.heap[w.heap.size + 1]? = some (.cells #[.int .i64 (hsI M p.p.p0 N)] 3)) ∧ c = .ret)
  (fun a' j X W => ((Base w1 (fun k => k = w.heap.size + 1) X W ∧ W.heap[w.heap.size + 1]? = some (.cells #[.int .i64 0] 3)) ∧ Hid (hsI M p.p.p0 N = hsI M p.p.p0 (N - j))) ∧
   ∃ B,¬ X B ∧ W.heap[B]? = some (.cells (msL (M (N - 1 - j))).toArray 53) ∧
   a' = { tmps := #[.pointer (some ⟨r,0,none⟩),.agg (paC p),undef,.pointer (some ⟨w.heap.size,0,none⟩),.pointer (some ⟨w.heap.size + 1,0,none⟩),undef,.pointer (some ⟨B,0,none⟩),.pointer (some ⟨r,0,none⟩),.pointer (some ⟨r,0,none⟩),.pointer (some ⟨r,0,none⟩),.slice a N cap,.func (.func 102) #[] #[.pointer (some ⟨w.heap.size + 1 + 1,0,none⟩)],.int .i64 ((N - 1 - j : Nat) : Int),.agg (msL (M (N - 1 - j))).toArray,undef,undef,undef,undef,undef,undef,undef,undef],defers := [] })
  ((steady_boxS (by omega) _).and (Steady.pure _)) (fun c => (steady_boxS (by omega) _).and (Steady.pure _)) (fun a' => ((steady_boxS (by omega) _).and (Steady.pure _)).and (steady_round a' _ _)) ?hR ⟨⟨Base.start _ _,hB1⟩,(rfl : hsI M p.p.p0 N = hsI M p.p.p0 (N - 0))⟩ ?assign ?body ?done ?stop
 case hR =>
  rintro j X W ⟨⟨hb,_⟩,_⟩
  exact hRd.turns hb.turns (by omega) (fun h e => by have := hgl h; omega)
 case assign =>
  rintro lv j X W K hj ⟨⟨hb,hv⟩,hji⟩ hK
  have hbs := hb.turns.size
  unfold encM
  generalize N - 1 - j = nn at *
  generalize hmm : M nn = mm at *
  obtain ⟨x0,x1,x2,x3,x4,x5⟩ := mm
  unfold msL at hK ⊢
  clear hmm
  gi_wp2
  exact hK _ _ (Keeps.alloc _ _ _) ⟨⟨⟨hb.alloc _,(Below.heap_alloc _ _ _ (by omega)).trans hv⟩,hji⟩,W.heap.size,hb.fresh,World.alloc_heap_new _ _,rfl⟩
 case body =>
  rintro lv j X a' W hj ⟨⟨⟨hb,hv⟩,hji⟩,B,hB,hr,rfl⟩
  have hf0 : W.frozen? ⟨w.heap.size + 1,0,none⟩ = false := Lib.frozen_of_heap hv 0
  have hc0 : W.cell? ⟨w.heap.size + 1,0,none⟩ = some (.int .i64 0) := by rw [Lib.cell_of_heap hv]; rfl
  have hr2 : W.cell? ⟨B,2,none⟩ = some (.int .i64 (M (N - 1 - j)).k) := by rw [Lib.cell_of_heap hr]; rfl
  have hr3 : W.cell? ⟨B,3,none⟩ = some (.int .i64 (M (N - 1 - j)).s) := by rw [Lib.cell_of_heap hr]; rfl
  have hbs := hb.turns.size
  have en : N - j = N - 1 - j + 1 := by omega
  by_cases h3 : (M (N - 1 - j)).k = 3
  ·have hq : ((M (N - 1 - j)).k != 3) = false := by simp [h3]
   have hji2 : Hid (hsI M p.p.p0 N = hsI M p.p.p0 (N - (j + 1))) := by
    show hsI M p.p.p0 N = hsI M p.p.p0 (N - (j + 1))
    rw [hji.out,en,hs_yes h3,show N - (j + 1) = N - 1 - j by omega]
   clear hji h3 hr en
   gi_wp2
   exact ⟨Keeps.refl _ _,⟨hb,hv⟩,hji2⟩
  ·have hq : ((M (N - 1 - j)).k != 3) = true := by simp [h3]
   have hval : Hid (hsI M p.p.p0 N = (M (N - 1 - j)).s) := by
    show hsI M p.p.p0 N = (M (N - 1 - j)).s
    rw [hji.out,en,hs_no h3]
   have hv' := Boxed.set (.int .i64 (M (N - 1 - j)).s) (show Boxed W (w.heap.size + 1) 3 _ from hv)
   have q1 : Hid ((W.setCell ⟨w.heap.size + 1,0,none⟩ (.int .i64 (M (N - 1 - j)).s)).heap[w.heap.size + 1]? = some (.cells #[.int .i64 (hsI M p.p.p0 N)] 3)) := by rw [hval.out]; exact hv'
   clear hv' hji h3 hr en
   gi_wp2
   exact ⟨Keeps.set W (fun h => by have := (hb.young _ h).1; simp at this; omega) _,⟨hb.set rfl _,q1.out⟩,rfl⟩
 case done =>
  rintro D W hD ⟨⟨hb,hv⟩,hji⟩ hK
  have he : Hid (hsI M p.p.p0 N = p.p.p0) := hji.out.trans (by rw [Nat.sub_self]; rfl)
  have hf0 : W.frozen? ⟨w.heap.size + 1,0,none⟩ = false := Lib.frozen_of_heap hv 0
  have hc0 : W.cell? ⟨w.heap.size + 1,0,none⟩ = some (.int .i64 0) := by rw [Lib.cell_of_heap hv]; rfl
  have hca : W.cell? ⟨w.heap.size,2,none⟩ = some (.int .i64 p.p.p0) := by rw [Lib.cell_of_heap ((hb.turns.block _ (by omega) (by omega)).trans hB0)]; rfl
  clear hji
  gi_wp2
  have hv' := Boxed.set (.int .i64 p.p.p0) (show Boxed W (w.heap.size + 1) 3 _ from hv)
  have hK' := (Below.heap_setCell W ⟨w.heap.size + 1,0,none⟩ (.int .i64 p.p.p0) D (show D ≠ w.heap.size + 1 by omega)).trans hK
  refine ⟨by simp,.inl ⟨_,_,rfl,run_takeDeferred hK',?_⟩⟩
  refine ⟨_,results_cells1 rfl _ _ (w.heap.size + 1) (.int .i64 p.p.p0) rfl (agg_no Tryz.underlying3 rfl _) (by rw [Lib.cell_of_heap ((heap_put (by omega) _).trans hv')]; rfl),by rw [he.out],below_end hT1 (hb.set rfl _) (fun k h => by omega) _⟩
 case stop =>
  rintro D c j W hD hj ⟨⟨hb,hv⟩,rfl⟩ hK
  have hc0 : W.cell? ⟨w.heap.size + 1,0,none⟩ = some (.int .i64 (hsI M p.p.p0 N)) := by rw [Lib.cell_of_heap hv]; rfl
  gi_wp2
  refine ⟨by simp,.inl ⟨_,_,rfl,run_takeDeferred hK,?_⟩⟩
  refine ⟨_,results_cells1 rfl _ _ (w.heap.size + 1) (.int .i64 (hsI M p.p.p0 N)) rfl (agg_no Tryz.underlying3 rfl _) (by rw [Lib.cell_of_heap ((heap_put (by omega) _).trans hv)]; rfl),rfl,below_end hT1 hb (fun k h => by omega) _⟩
end Go.Proofs.YtbdpghjegachaaaGreatDoor
