/-
  What is proved here: what Break of first answers of any items and any profile.
  What is proved here: what Demerits of least answers.
  What is proved here: the natural width of a run of masses, as Natural of metric tells it.
  What is proved here: the items of blanks, tabs and soft hyphens, as alone tells them; how wide a hyphen is.
-/
import Derived.Test.YtaphggjakaghjaaGreatDoorG17
import Derived.Test.YtaphggjakaghjaaGreatDoorG4
import Derived.Test.YtaphggjakaghjaaGreatDoorG13
import Derived.Test.YtaphggjakaghjaaGreatDoorG14
import Derived.Test.YtaphggjakaghjaaGreatDoorRows
import Derived.Test.YtaphggjakaghjaaGreatDoorG2
import Derived.Test.YtaphggjakaghjaaGreatDoorG1
import Derived.BigQuiet
import Derived.Handy
import Derived.Test.YtaphggjakaghjaaGreatDoorG9
import Derived.Deep.MidRow
import Derived.Test.YtaphggjakaghjaaGreatDoorG5
import Derived.Test.YtaphggjakaghjaaGreatDoorG7
import Derived.Test.YtaphggjakaghjaaGreatDoorG10
import Derived.Test.YtaphggjakaghjaaGreatDoorG12
import Derived.Laws.ResultCell
namespace Go.Proofs.YtaphggjakaghjaaGreatDoor
open Go.RowKit Go.Shelf
set_option maxRecDepth 100000
set_option maxHeartbeats 8000000

def fbrE (l : List It) (ss : List Sl) (r : Sl) : Int := if ckL l ≠ 0 then ckL l else ckS ss r
def fBrEnd (l : List It) (ss : List Sl) (r : Sl) (w : World) (e : Ending) (w' : World) : Prop :=
 (∃ v,e = .returned (.tuple #[v,.int .i64 (fbrE l ss r)]) ∧ ((fbrE l ss r ≠ 0 ∧ v = .slice none 0 0) ∨ (fbrE l ss r = 0 ∧ PcsAt w' v (lsL l ss r)))) ∧ Below w.heap.size w w'
theorem fbreak_any (v vs : Value) (l : List It) (ss : List Sl) (r : Sl) (hl : ss.length ≤ 9223372036854775807) (w : World) (hS : ItsAt w v l) (hV : SlsAt w vs ss) :
  Calls Tryz.prog 150 #[v,vs,.agg (slL r).toArray] w (fBrEnd l ss r w) := by
 obtain ⟨a,cap,rfl,-⟩ := hS.ex
 obtain ⟨a2,cap2,rfl,-⟩ := hV.ex
 have hB := below2 w (.cells #[.slice a2 ss.length cap2] 109) (.cells #[.int .i64 r.x,.int .i64 r.w] 98)
 have h4 : ((w.alloc (.cells #[.slice a2 ss.length cap2] 109)).alloc (.cells #[.int .i64 r.x,.int .i64 r.w] 98)).heap[w.heap.size]? = some (.cells #[.slice a2 ss.length cap2] 109) := (Below.heap_alloc _ _ _ (by simp)).trans (World.alloc_heap_new w _)
 have h5 := alloc2_heap w (.cells #[.slice a2 ss.length cap2] 109) (.cells #[.int .i64 r.x,.int .i64 r.w] 98)
 have hS1 := hS.below hB (Nat.le_refl _)
 have hV1 := hV.below hB (Nat.le_refl _)
 have hC : Hid (Calls Tryz.prog 204 #[.slice a l.length cap] ((w.alloc (.cells #[.slice a2 ss.length cap2] 109)).alloc (.cells #[.int .i64 r.x,.int .i64 r.w] 98)) fun e w' => e = .returned (.int .i64 (ckL l)) ∧ Below ((w.alloc (.cells #[.slice a2 ss.length cap2] 109)).alloc (.cells #[.int .i64 r.x,.int .i64 r.w] 98)).heap.size ((w.alloc (.cells #[.slice a2 ss.length cap2] 109)).alloc (.cells #[.int .i64 r.x,.int .i64 r.w] 98)) w') := icheck_any _ l _ hS1
 show Calls Tryz.prog 150 #[.slice a l.length cap,.slice a2 ss.length cap2,.agg #[.int .i64 r.x,.int .i64 r.w]] w _
 have hbr : Hid (fbrE l ss r = if ckL l ≠ 0 then ckL l else ckS ss r) := rfl
 have hEnd : Hid (∀ v W,(fbrE l ss r ≠ 0 ∧ v = .slice none 0 0) ∨ (fbrE l ss r = 0 ∧ PcsAt W v (lsL l ss r)) → Below w.heap.size w W → fBrEnd l ss r w (.returned (.tuple #[v,.int .i64 (fbrE l ss r)])) W) := fun v W h1 h2 => ⟨⟨v,rfl,h1⟩,h2⟩
 have hF : Hid (∀ W,Below ((w.alloc (.cells #[.slice a2 ss.length cap2] 109)).alloc (.cells #[.int .i64 r.x,.int .i64 r.w] 98)).heap.size ((w.alloc (.cells #[.slice a2 ss.length cap2] 109)).alloc (.cells #[.int .i64 r.x,.int .i64 r.w] 98)) W → Calls Tryz.prog 140 #[.slice a2 ss.length cap2,.agg #[.int .i64 r.x,.int .i64 r.w]] W fun e w' => e = .returned (.int .i64 (ckS ss r)) ∧ Below W.heap.size W w') := fun W hW => fcheck_any _ ss r hl W (hV1.below hW (Nat.le_refl _))
 have hE : Hid (ckL l = 0 → ckS ss r = 0 → ∀ W,Below ((w.alloc (.cells #[.slice a2 ss.length cap2] 109)).alloc (.cells #[.int .i64 r.x,.int .i64 r.w] 98)).heap.size ((w.alloc (.cells #[.slice a2 ss.length cap2] 109)).alloc (.cells #[.int .i64 r.x,.int .i64 r.w] 98)) W → Calls Tryz.prog 205 #[.slice a l.length cap,.func (.func 206) #[] #[.pointer (some ⟨w.heap.size,0,none⟩),.pointer (some ⟨w.heap.size + 1,0,none⟩)],.func (.func 207) #[.pointer (some ⟨W.heap.size,0,none⟩)] #[]] (W.alloc (.cells #[.slice none 0 0] 288)) fun e W' => (∃ v,e = .returned v) ∧ GW W (lsL l ss r) W') := fun h1 h2 W hW => by
  have k4 := (hW.block _ (by simp; omega)).trans h4
  have k5 := (hW.block _ (by simp)).trans h5
  exact eachLine_any W _ _ l ss r _ _ h1 h2 (hS1.below hW (Nat.le_refl _)) k4 k5 (hV1.below hW (Nat.le_refl _)) _ ⟨(Below.refl W.heap.size W).alloc (Nat.le_refl _) _,none,0,0,World.alloc_heap_new W _,World.ownsRow_nil _ _ _ _⟩
 have hx1 : ((w.alloc (.cells #[.slice a2 ss.length cap2] 109)).alloc (.cells #[.int .i64 r.x,.int .i64 r.w] 98)).cell? ⟨w.heap.size,0,none⟩ = some (.slice a2 ss.length cap2) := by rw [Lib.cell_of_heap h4]; rfl
 have hx2 : ((w.alloc (.cells #[.slice a2 ss.length cap2] 109)).alloc (.cells #[.int .i64 r.x,.int .i64 r.w] 98)).cell? ⟨w.heap.size + 1,0,none⟩ = some (.int .i64 r.x) := by rw [Lib.cell_of_heap h5]; rfl
 have hx3 : ((w.alloc (.cells #[.slice a2 ss.length cap2] 109)).alloc (.cells #[.int .i64 r.x,.int .i64 r.w] 98)).cell? ⟨w.heap.size + 1,1,none⟩ = some (.int .i64 r.w) := by rw [Lib.cell_of_heap h5]; rfl
 have hz : w.heap.size + 1 < ((w.alloc (.cells #[.slice a2 ss.length cap2] 109)).alloc (.cells #[.int .i64 r.x,.int .i64 r.w] 98)).heap.size := by simp
 have hBh : Hid (Below w.heap.size w ((w.alloc (.cells #[.slice a2 ss.length cap2] 109)).alloc (.cells #[.int .i64 r.x,.int .i64 r.w] 98))) := hB
 have hcl : Hid (∀ W,Below ((w.alloc (.cells #[.slice a2 ss.length cap2] 109)).alloc (.cells #[.int .i64 r.x,.int .i64 r.w] 98)).heap.size ((w.alloc (.cells #[.slice a2 ss.length cap2] 109)).alloc (.cells #[.int .i64 r.x,.int .i64 r.w] 98)) W → W.cell? ⟨w.heap.size,0,none⟩ = some (.slice a2 ss.length cap2) ∧ W.cell? ⟨w.heap.size + 1,0,none⟩ = some (.int .i64 r.x) ∧ W.cell? ⟨w.heap.size + 1,1,none⟩ = some (.int .i64 r.w)) := fun W hW => ⟨(hW.cell (Nat.lt_trans (Nat.lt_succ_self _) hz)).trans hx1,(hW.cell hz).trans hx2,(hW.cell hz).trans hx3⟩
 clear hS hV hS1 hV1 h4 h5 hB hx1 hx2 hx3 hz
 generalize lsL l ss r = R at *
 generalize fbrE l ss r = br at *
 generalize ckL l = c1 at *
 generalize ckS ss r = c2 at *
 by_cases h1 : c1 = 0
 ·have q1 : (c1 != 0) = false := by rw [h1]; rfl
  have hbr2 : br = c2 := by rw [hbr.out,if_neg (by simpa using h1)]
  subst hbr2
  by_cases h2 : br = 0
  ·have hE2 : Hid (∀ W,Below ((w.alloc (.cells #[.slice a2 ss.length cap2] 109)).alloc (.cells #[.int .i64 r.x,.int .i64 r.w] 98)).heap.size ((w.alloc (.cells #[.slice a2 ss.length cap2] 109)).alloc (.cells #[.int .i64 r.x,.int .i64 r.w] 98)) W → Calls Tryz.prog 205 #[.slice a l.length cap,.func (.func 206) #[] #[.pointer (some ⟨w.heap.size,0,none⟩),.pointer (some ⟨w.heap.size + 1,0,none⟩)],.func (.func 207) #[.pointer (some ⟨W.heap.size,0,none⟩)] #[]] (W.alloc (.cells #[.slice none 0 0] 288)) fun e W' => (∃ v,e = .returned v) ∧ GW W R W') := hE.out h1 h2
   have q2 : (br != 0) = false := by rw [h2]; rfl
   have hEnd2 : Hid (∀ v W,PcsAt W v R → Below w.heap.size w W → fBrEnd l ss r w (.returned (.tuple #[v,.int .i64 0])) W) := fun v W k1 k2 => by
    have := hEnd.out v W (.inr ⟨h2,k1⟩) k2
    rwa [h2] at this
   clear hE hbr hEnd h1 h2
   go_enter Tryz.func150,Tryz.ntmps150
   go_wp2_with fail
   generalize (w.alloc (.cells #[.slice a2 ss.length cap2] 109)).alloc (.cells #[.int .i64 r.x,.int .i64 r.w] 98) = wz at *
   go_wp2_with (first | (go_at_call 204; refine hC.out.mono ?_; rintro e w1 ⟨rfl,hb1⟩; obtain ⟨x1,x2,x3⟩ := hcl.out w1 hb1) | (go_at_call 140; refine (hF.out w1 hb1).mono ?_; rintro e w2 ⟨rfl,hb2⟩; have hb12 := hb1.trans (hb2.mono hb1.size)) | (go_at_call 205; refine (hE2.out w2 hb12).mono ?_; rintro e w3 ⟨⟨ve,rfl⟩,hG3⟩; obtain ⟨va,vn,vc,hbx,hrow⟩ := hG3.ex; have cg : w3.cell? ⟨w2.heap.size,0,none⟩ = some (.slice va vn vc) := (by rw [Lib.cell_of_heap hbx]; rfl)))
   go_ret2
   refine hEnd2.out _ _ (rec_of_row pcL_len rfl hrow) ?_
   have hb2z : Below w.heap.size w w2 := hBh.out.trans (hb12.mono hBh.out.size)
   exact hb2z.trans (hG3.low.mono hb2z.size)
  ·have q2 : (br != 0) = true := by simpa using h2
   have hEnd2 : Hid (∀ W,Below w.heap.size w W → fBrEnd l ss r w (.returned (.tuple #[.slice none 0 0,.int .i64 br])) W) := fun W k2 => hEnd.out _ W (.inl ⟨h2,rfl⟩) k2
   clear hE hbr hEnd h1 h2
   go_enter Tryz.func150,Tryz.ntmps150
   go_wp2_with fail
   generalize (w.alloc (.cells #[.slice a2 ss.length cap2] 109)).alloc (.cells #[.int .i64 r.x,.int .i64 r.w] 98) = wz at *
   go_wp2_with (first | (go_at_call 204; refine hC.out.mono ?_; rintro e w1 ⟨rfl,hb1⟩; obtain ⟨x1,x2,x3⟩ := hcl.out w1 hb1) | (go_at_call 140; refine (hF.out w1 hb1).mono ?_; rintro e w2 ⟨rfl,hb2⟩; have hb12 := hb1.trans (hb2.mono hb1.size)))
   go_ret2
   exact hEnd2.out _ (hBh.out.trans (hb12.mono hBh.out.size))
 ·have q1 : (c1 != 0) = true := by simpa using h1
  have hbr2 : br = c1 := by rw [hbr.out,if_pos h1]
  subst hbr2
  have hEnd2 : Hid (∀ W,Below w.heap.size w W → fBrEnd l ss r w (.returned (.tuple #[.slice none 0 0,.int .i64 br])) W) := fun W k2 => hEnd.out _ W (.inl ⟨h1,rfl⟩) k2
  clear hE hbr hEnd h1 hF
  go_enter Tryz.func150,Tryz.ntmps150
  go_wp2_with fail
  generalize (w.alloc (.cells #[.slice a2 ss.length cap2] 109)).alloc (.cells #[.int .i64 r.x,.int .i64 r.w] 98) = wz at *
  go_wp2_with (go_at_call 204; refine hC.out.mono ?_; rintro e w1 ⟨rfl,hb1⟩)
  go_ret2
  exact hEnd2.out _ (hBh.out.trans (hb1.mono hBh.out.size))
end Go.Proofs.YtaphggjakaghjaaGreatDoor

namespace Go.Proofs.YtaphggjakaghjaaGreatDoor
open Go.RowKit Go.Shelf

theorem sls_slot {W : World} {v : Value} {ss : List Sl} {r : Sl} {k : Nat} (hl : ss.length ≤ 9223372036854775807) (hS : SlsAt W v ss) : Calls Tryz.prog 75 #[v,.agg (slL r).toArray,.int .i64 (k : Nat)] W fun e w' => e = .returned (.agg (slL (slN ss r k)).toArray) ∧ Below W.heap.size W w' := by
 have := fslot_any v ss r k hl W hS
 rw [slI_nat] at this
 exact this
end Go.Proofs.YtaphggjakaghjaaGreatDoor

namespace Go.Proofs.YtaphggjakaghjaaGreatDoor
open Go.RowKit Go.Shelf
set_option maxRecDepth 100000
set_option maxHeartbeats 4000000

def mOk (m : Ms) : Bool := decide ((0 ≤ m.w ∧ m.w ≤ 4095) ∧ (-64 ≤ m.q ∧ m.q ≤ 0))
def ms0 : Ms := ⟨0,0,0,0,0,0⟩
def runN (l : List Ms) (f : Nat) : Nat → Int
 | 0 => 0
 | k + 1 => runN l f k + (l.getD (f + k) ms0).w + (if 0 < k then (l.getD (f + k) ms0).q else 0)
def natE (l : List Ms) (f t : Int) : Int := if 4096 < l.length then 3 else if l.all mOk = true then (if 0 ≤ f ∧ f ≤ t ∧ t ≤ l.length then 0 else 5) else 2
def natV (l : List Ms) (f t : Int) : Int := if natE l f t = 0 then runN l f.toNat (t.toNat - f.toNat) else 0
theorem getD_is {l : List Ms} {i : Nat} (h : i < l.length) : l.getD i ms0 = l[i] := by rw [List.getD_eq_getElem?_getD,List.getElem?_eq_getElem h]; rfl
theorem run_rng {l : List Ms} (h : l.all mOk = true) (f : Nat) : ∀ k,f + k ≤ l.length → -64 * (k : Int) ≤ runN l f k ∧ runN l f k ≤ 4095 * (k : Int)
 | 0,_ => by simp [runN]
 | k + 1, hk => by
  have ih := run_rng h f k (by omega)
  have hm := List.all_eq_true.1 h l[f + k] (List.getElem_mem (by omega))
  unfold mOk at hm
  rw [decide_eq_true_eq] at hm
  have e : runN l f (k + 1) = runN l f k + l[f + k].w + (if 0 < k then l[f + k].q else 0) := by
   show runN l f k + (l.getD (f + k) ms0).w + (if 0 < k then (l.getD (f + k) ms0).q else 0) = _
   rw [getD_is (show f + k < l.length by omega)]
  rw [e]
  split <;> omega
theorem all_no {l : List Ms} {k : Nat} (hk : k < l.length) (h : mOk l[k] = false) : l.all mOk = false := List.all_eq_false.2 ⟨l[k],List.getElem_mem hk,by simp [h]⟩
theorem all_yes {l : List Ms} (h : ∀ k (hk : k < l.length),mOk l[k] = true) : l.all mOk = true := List.all_eq_true.2 fun b hb => by
 obtain ⟨k,hk,rfl⟩ := List.getElem_of_mem hb
 exact h k hk
theorem all_at {l : List Ms} (h : l.all mOk = true) {k : Nat} (hk : k < l.length) : mOk l[k] = true := List.all_eq_true.1 h _ (List.getElem_mem hk)

def nat2 (m : Ms) : List Bd := [(m.w,0,4095),(m.q,-64,0)]
theorem nat2_keep (m : Ms) : keepB (nat2 m) = mOk m := by
 unfold keepB nat2 bdB mOk
 rw [Bool.eq_iff_iff]
 simp only [List.all_cons,List.all_nil,Bool.and_true,Bool.and_eq_true,decide_eq_true_eq]

theorem slice36 (a : Option Addr) (n cap f t : Nat) (W : World) (h1 : f ≤ t) (h2 : t ≤ cap) : ∃ a',(Instr.slice 143 (.slice a n cap) (some (.int .i64 (f : Int))) (some (.int .i64 (t : Int))) none).run Tryz.prog W = .ok (.slice a' (t - f) (cap - f)) W ∧ (∀ b o,a = some ⟨b,o,none⟩ → f < t → a' = some ⟨b,o + f * 6,none⟩) := by
 have he : Tryz.prog.elem 143 = 147 := by kernel_rfl
 have hu : Tryz.prog.underlying 143 = some (.slice (Tryz.prog.elem 143)) := by rw [he]; exact Tryz.underlying143
 have hr := run_slice_lh (P := Tryz.prog) (w := W) 143 a n cap hu .i64 .i64 f t (by omega) (by omega) (by omega)
 have hs : (sizeOf (Tryz.prog.elem 143)).run Tryz.prog W = .ok 6 W := by kernel_rfl
 rw [hs] at hr
 simp only [Result.andThen,sliced,Int.toNat_natCast] at hr
 refine ⟨_,hr,fun b o e hlt => ?_⟩
 rw [if_neg (by omega),e]
 simp [addr_add]

theorem natural_any (v : Value) (l : List Ms) (hl : l.length ≤ 9223372036854775807) (f t : Int) (w : World) (hS : RecAt 6 msL w v l) :
  Calls Tryz.prog 138 #[v,.int .i64 f,.int .i64 t] w fun e w' => e = .returned (.tuple #[.int .i64 (natV l f t),.int .i64 (natE l f t)]) ∧ Below w.heap.size w w' := by
 have hle := hS.le
 obtain ⟨a,cap,rfl,h2⟩ := hS.ex
 have hcap := hle _ _ _ rfl
 clear hS hle
 by_cases hlong : 4096 < l.length
 ·have e1 : natE l f t = 3 := if_pos hlong
  have e2 : natV l f t = 0 := by unfold natV; rw [e1]; rfl
  rw [e1,e2]
  clear e1 e2
  go_enter Tryz.func138,Tryz.ntmps138
  go_wp2_with fail
  go_ret2
  exact ⟨rfl,Below.refl _ _⟩
 ·have hr : Hid (∀ (W : World) (m : Nat) (r : Ms),W.heap.size = m → Calls Tryz.prog 170 #[.slice (some ⟨m,0,none⟩) 2 2] (W.alloc (.cells #[.int .i64 r.w,.int .i64 0,.int .i64 4095,.int .i64 r.q,.int .i64 (-64),.int .i64 0] 260)) fun e w' => e = .returned (.bool (mOk r)) ∧ Below W.heap.size W w') := fun W m r hm => by
   subst hm
   have h := keep_any _ (nat2 r) (by show 2 ≤ 100; omega) _ (rec_new (k := 3) bdL_len W 260 (nat2 r))
   rw [nat2_keep] at h
   refine h.mono ?_
   rintro e w' ⟨rfl,hb⟩
   exact ⟨rfl,((Below.refl _ W).alloc (Nat.le_refl _) _).trans (hb.mono (by simp))⟩
  have hno : Hid (l.all mOk = false → natE l f t = 2 ∧ natV l f t = 0) := fun h => by
   have e : natE l f t = 2 := by unfold natE; rw [if_neg hlong,h]; rfl
   refine ⟨e,?_⟩; unfold natV; rw [e]; rfl
  have hre : Hid (l.all mOk = true → ¬ (0 ≤ f ∧ f ≤ t ∧ t ≤ l.length) → natE l f t = 5 ∧ natV l f t = 0) := fun h h3 => by
   have e : natE l f t = 5 := by unfold natE; rw [if_neg hlong,h,if_pos rfl,if_neg h3]
   refine ⟨e,?_⟩; unfold natV; rw [e]; rfl
  have hyes : Hid (l.all mOk = true → (0 ≤ f ∧ f ≤ t ∧ t ≤ l.length) → natE l f t = 0 ∧ natV l f t = runN l f.toNat (t.toNat - f.toNat)) := fun h h3 => by
   have e : natE l f t = 0 := by unfold natE; rw [if_neg hlong,h,if_pos rfl,if_pos h3]
   refine ⟨e,?_⟩; unfold natV; rw [e]; rfl
  generalize natE l f t = E at *
  generalize natV l f t = V at *
  have hlong' : ¬ (4096 : Int) < l.length := by omega
  go_enter Tryz.func138,Tryz.ntmps138
  go_wp2_with fail
  go_loopw [18] (fun i wr => ∃ k : Nat,k ≤ l.length ∧ i = .int .i64 k ∧ Below w.heap.size w wr ∧ Hid (∀ j (hj : j < l.length),j < k → mOk l[j] = true)) (fun i _ => l.length - (intOf i).toNat)
  case atStart => exact ⟨0,by omega,rfl,Below.refl _ _,fun j _ hj => by omega⟩
  case round =>
   obtain ⟨k,hk,rfl,hb,hall⟩ := hrel
   by_cases hlt : k < l.length
   ·rcases h2 with h2 | ⟨b,o,rfl,hbl,hc⟩
    ·rw [h2] at hlt; simp at hlt
    ·have c0 : wr.cell? ⟨b,o + k * 6,none⟩ = some (.int .i64 l[k].f) := (hb.cell hbl).trans (hc k hlt 0 _ rfl)
     have c1 : wr.cell? ⟨b,o + k * 6 + 1,none⟩ = some (.int .i64 l[k].t) := (hb.cell hbl).trans (hc k hlt 1 _ rfl)
     have c2 : wr.cell? ⟨b,o + k * 6 + 2,none⟩ = some (.int .i64 l[k].k) := (hb.cell hbl).trans (hc k hlt 2 _ rfl)
     have c3 : wr.cell? ⟨b,o + k * 6 + 3,none⟩ = some (.int .i64 l[k].s) := (hb.cell hbl).trans (hc k hlt 3 _ rfl)
     have c4 : wr.cell? ⟨b,o + k * 6 + 4,none⟩ = some (.int .i64 l[k].w) := (hb.cell hbl).trans (hc k hlt 4 _ rfl)
     have c5 : wr.cell? ⟨b,o + k * 6 + 5,none⟩ = some (.int .i64 l[k].q) := (hb.cell hbl).trans (hc k hlt 5 _ rfl)
     have hlt' : (k : Int) < l.length := by omega
     have hw := hb.size
     have hr' : Hid (Calls Tryz.prog 170 #[.slice (some ⟨wr.heap.size + 1,0,none⟩) 2 2] ((wr.alloc (.cells #[.int .i64 l[k].f,.int .i64 l[k].t,.int .i64 l[k].k,.int .i64 l[k].s,.int .i64 l[k].w,.int .i64 l[k].q] 147)).alloc (.cells #[.int .i64 l[k].w,.int .i64 0,.int .i64 4095,.int .i64 l[k].q,.int .i64 (-64),.int .i64 0] 260)) fun e w' => e = .returned (.bool (mOk l[k])) ∧ Below w.heap.size w w') := by
      have := hr.out (wr.alloc (.cells #[.int .i64 l[k].f,.int .i64 l[k].t,.int .i64 l[k].k,.int .i64 l[k].s,.int .i64 l[k].w,.int .i64 l[k].q] 147)) (wr.heap.size + 1) l[k] (World.size_alloc _ _)
      refine this.mono ?_
      rintro e w' ⟨rfl,hB⟩
      exact ⟨rfl,(hb.alloc hb.size _).trans (hB.mono (by simp; omega))⟩
     clear hr hc
     cases hv : mOk l[k]
     ·rw [hv] at hr'
      obtain ⟨e1,e2⟩ := hno.out (all_no hlt hv)
      subst e1 e2
      clear hno hre hyes hall hv
      generalize l[k].f = x0 at *
      generalize l[k].t = x1 at *
      generalize l[k].k = x2 at *
      generalize l[k].s = x3 at *
      generalize l[k].w = x4 at *
      generalize l[k].q = x5 at *
      go_wp2_with (go_at_call 170; refine hr'.out.mono ?_; rintro e w' ⟨rfl,hB⟩)
      go_ret2
      exact ⟨rfl,hB⟩
     ·rw [hv] at hr'
      have hy : Hid (∀ j (hj : j < l.length),j < k + 1 → mOk l[j] = true) := fun j hj hjk => by
       by_cases h : j < k
       ·exact hall.out j hj h
       ·obtain rfl : j = k := by omega
        exact hv
      clear hno hre hyes hall hv
      generalize l[k].f = x0 at *
      generalize l[k].t = x1 at *
      generalize l[k].k = x2 at *
      generalize l[k].s = x3 at *
      generalize l[k].w = x4 at *
      generalize l[k].q = x5 at *
      go_wp2_with (go_at_call 170; refine hr'.out.mono ?_; rintro e w' ⟨rfl,hB⟩)
      go_roundw
      case rel => exact ⟨k + 1,by omega,by simp,hB,hy⟩
      case measure => simp [intOf]; omega
   ·obtain rfl : k = l.length := by omega
    have hall' : l.all mOk = true := all_yes (fun j hj => hall.out j hj hj)
    have hge : ¬ ((l.length : Int) < l.length) := by omega
    by_cases h3 : 0 ≤ f ∧ f ≤ t ∧ t ≤ l.length
    ·obtain ⟨e1,e2⟩ := hyes.out hall' h3
     obtain ⟨h30,h31,h32⟩ := h3
     obtain ⟨F,rfl⟩ : ∃ F : Nat,f = F := ⟨f.toNat,by omega⟩
     obtain ⟨T,rfl⟩ : ∃ T : Nat,t = T := ⟨t.toNat,by omega⟩
     obtain ⟨a',hsl,hsa⟩ := slice36 a l.length cap F T wr (by omega) (by omega)
     have hrun : Hid (V = runN l F (T - F)) := by rw [e2]; rfl
     have hAll : Hid (l.all mOk = true) := hall'
     subst e1
     clear e2 hyes hre hno hr hall hall'
     have hF0 : ¬ (F : Int) < 0 := by omega
     have hTF : ¬ (T : Int) < F := by omega
     have hTl : ¬ (l.length : Int) < T := by omega
     obtain ⟨n,hn⟩ : ∃ n,T - F = n := ⟨_,rfl⟩
     rw [hn] at hsl hrun
     have hn4 : n ≤ 4096 := by omega
     go_wp2_with fail
     go_loopw [10,50] (fun s i wr2 => ∃ j : Nat,j ≤ n ∧ i = .int .i64 j ∧ s = .int .i64 (runN l F j) ∧ Below w.heap.size w wr2) (fun _ i _ => n - (intOf i).toNat)
     case atStart => exact ⟨0,by omega,rfl,rfl,hb⟩
     case round =>
      obtain ⟨j,hj,rfl,rfl,hb2⟩ := hrel
      by_cases hjn : j < n
      ·rcases h2 with h2 | ⟨b,o,rfl,hbl,hc⟩
       ·rw [h2] at h32; simp at h32; omega
       ·have ha' := hsa b o rfl (by omega)
        subst ha'
        have hjl : F + j < l.length := by omega
        have e0 : o + (F + j) * 6 = o + F * 6 + j * 6 := by rw [Nat.add_mul]; omega
        have hcj : ∀ q u,(msL l[F + j])[q]? = some u → wr.cell? ⟨b,o + F * 6 + j * 6 + q,none⟩ = some u := fun q u hu => by
         have := (hb2.cell hbl).trans (hc (F + j) hjl q u hu)
         rwa [e0] at this
        have c0 : wr.cell? ⟨b,o + F * 6 + j * 6,none⟩ = some (.int .i64 l[F + j].f) := hcj 0 _ rfl
        have c1 : wr.cell? ⟨b,o + F * 6 + j * 6 + 1,none⟩ = some (.int .i64 l[F + j].t) := hcj 1 _ rfl
        have c2 : wr.cell? ⟨b,o + F * 6 + j * 6 + 2,none⟩ = some (.int .i64 l[F + j].k) := hcj 2 _ rfl
        have c3 : wr.cell? ⟨b,o + F * 6 + j * 6 + 3,none⟩ = some (.int .i64 l[F + j].s) := hcj 3 _ rfl
        have c4 : wr.cell? ⟨b,o + F * 6 + j * 6 + 4,none⟩ = some (.int .i64 l[F + j].w) := hcj 4 _ rfl
        have c5 : wr.cell? ⟨b,o + F * 6 + j * 6 + 5,none⟩ = some (.int .i64 l[F + j].q) := hcj 5 _ rfl
        have hr0 := run_rng hAll.out F j (by omega)
        have hm := all_at hAll.out hjl
        unfold mOk at hm
        rw [decide_eq_true_eq] at hm
        have hst : Hid (runN l F (j + 1) = runN l F j + l[F + j].w + (if 0 < j then l[F + j].q else 0)) := by
         show runN l F j + (l.getD (F + j) ms0).w + (if 0 < j then (l.getD (F + j) ms0).q else 0) = _
         rw [getD_is hjl]
        have hjn' : (j : Int) < n := by omega
        have hb2' : Hid (Below w.heap.size w wr) := hb2
        have hb3 : Hid (Below w.heap.size w (wr.alloc (.cells #[.int .i64 l[F + j].f,.int .i64 l[F + j].t,.int .i64 l[F + j].k,.int .i64 l[F + j].s,.int .i64 l[F + j].w,.int .i64 l[F + j].q] 147))) := hb2.alloc hb2.size _
        obtain ⟨off,hoff⟩ : ∃ off,o + F * 6 = off := ⟨_,rfl⟩
        rw [hoff] at c0 c1 c2 c3 c4 c5
        rw [hoff] at hsl
        rw [hoff]
        clear hcj hc e0 hoff hsa hb2 hsl
        generalize l[F + j].f = x0 at *
        generalize l[F + j].t = x1 at *
        generalize l[F + j].k = x2 at *
        generalize l[F + j].s = x3 at *
        generalize l[F + j].w = x4 at *
        generalize l[F + j].q = x5 at *
        generalize hR : runN l F j = R at *
        obtain ⟨⟨m0,m1⟩,m2,m3⟩ := hm
        obtain ⟨r0,r1⟩ := hr0
        by_cases hj0 : j = 0
        ·have hz : Hid (runN l F (j + 1) = R + x4) := hst.out.trans (by rw [if_neg (by omega),Int.add_zero])
         have hj0' : ¬ (0 : Int) < j := by omega
         have hj0'' : decide ((0 : Int) < j) = false := decide_eq_false hj0'
         clear hst hj0
         go_wp2_with fail
         go_roundw
         case rel => exact ⟨j + 1,by omega,by simp,by rw [hz.out],hb3⟩
         case measure => simp [intOf]; omega
        ·have hz : Hid (runN l F (j + 1) = R + x4 + x5) := hst.out.trans (by rw [if_pos (by omega)])
         have hj0' : (0 : Int) < j := by omega
         clear hst hj0
         go_wp2_with fail
         go_roundw
         case rel => exact ⟨j + 1,by omega,by simp,by rw [hz.out],hb3⟩
         case measure => simp [intOf]; omega
      ·obtain rfl : j = n := by omega
       have hv := hrun.out
       subst hv
       clear hrun h2 hsl hsa hn
       go_wp2_with fail
       go_ret2
       exact ⟨rfl,hb2⟩
    ·obtain ⟨e1,e2⟩ := hre.out hall' h3
     subst e1 e2
     clear hyes hre hno hr hall hall' h2
     have h3' : f < 0 ∨ (0 ≤ f ∧ t < f) ∨ (0 ≤ f ∧ f ≤ t ∧ (l.length : Int) < t) := by omega
     clear h3
     rcases h3' with h3 | ⟨h3,h4⟩ | ⟨h3,h4,h5⟩
     all_goals
      go_wp2_with fail
      go_ret2
      exact ⟨rfl,hb⟩

end Go.Proofs.YtaphggjakaghjaaGreatDoor

namespace Go.Proofs.YtaphggjakaghjaaGreatDoor
open Go.RowKit Go.Shelf
set_option maxRecDepth 100000

def itC (x : It) : Array Value := #[.int .i64 x.k,.int .i64 x.f,.int .i64 x.t,.int .i64 x.w,.int .i64 x.s,.int .i64 x.h,.int .i64 x.c,.bool x.y]
theorem itC_one (x : It) : (itC x).all (·.oneCell') = true := by simp [itC,Value.oneCell']
theorem info51 (x : It) : (Tryz.prog.info? 125).map (·.size) = some (itC x).size := by show _ = some 8; kernel_rfl
theorem heap_new (w : World) (o : Obj) : (w.alloc o).heap[w.heap.size]? = some o := by show (w.heap.push o)[w.heap.size]? = _; simp
theorem below_row {n b : Nat} {w W : World} (h : Below n w W) (hn : n ≤ W.heap.size) (hb : n ≤ b) (cs : Array Value) : Below n w (W.setRow b cs) :=
 h.trans ((Turns.setRow (X := fun k => k = b) W rfl cs).below hn (fun k hk => by omega))
theorem results_cell_row2 {P : Program} {fn : Func} {p u : Tmp} {ty : TypeId} (h : fn.results = #[.cell p ty,.tmp u]) (tmps : Array Value) (w : World) (g : Nat) (t : TypeId) (cs : Array Value) (fr : Nat × Nat) (d : TypeDesc)
  (hp : tmps.getD p undef = .pointer (some ⟨g,0,none⟩)) (hg : w.heap[g]? = some (.cells cs t fr))
  (hu : P.underlying ty = some d) (hd : (match d with | .struct _ | .array _ _ => true | _ => false) = true) (hi : (P.info? ty).map (·.size) = some cs.size) :
  (results fn tmps).run P w = .ok (.tuple #[.agg cs,tmps.getD u undef]) w := by
 have hp' : tmps[p]?.getD undef = .pointer (some ⟨g,0,none⟩) := by simpa using hp
 rw [results_cell_tmp h]
 simp [hp',asAddr,run_loadVar_row w g t ty cs fr d hg hu hd hi,Result.andThen]
structure IX (W : World) (b : Nat) (x : It) : Prop where
 row : W.heap[b]? = some (.cells (itC x) 125 (0,0))
theorem IX.new (w : World) (x : It) : IX (w.alloc (.cells (itC x) 125)) w.heap.size x := ⟨heap_new w _⟩
theorem IX.lt {W : World} {b : Nat} {x : It} (h : IX W b x) : b < W.heap.size := (Array.getElem?_eq_some_iff.1 h.row).1
theorem IX.below {n : Nat} {W W' : World} {b : Nat} {x : It} (h : IX W b x) (hb : Below n W W') (hn : b < n) : IX W' b x := ⟨(hb.block b hn).trans h.row⟩
theorem IX.set {W : World} {b : Nat} {x : It} (h : IX W b x) (y : It) : IX (W.setRow b (itC y)) b y := ⟨setRow_heap _ _ _ _ 125 _ h.row⟩

theorem wrap_ok {x : Int} (h : -9223372036854775808 ≤ x) (h' : x ≤ 9223372036854775807) : IntKind.i64.wrap x = x := by
 rw [IntKind.wrap_i64]; omega

def dash : ByteArray := ⟨#[45]⟩
def hyW (s : Int) : Int := wVal dash s
theorem hyphenWidth_any (s : Int) (w : World) : Calls Tryz.prog 228 #[.int .i64 s] w fun e w' => e = .returned (.int .i64 (hyW s)) ∧ w' = w := by
 have h : Calls Tryz.prog 184 #[.string ⟨#[45]⟩,.int .i64 s] w fun e w' => e = .returned (.tuple #[.int .i64 (hyW s),.int .i64 (wErr dash s)]) ∧ w' = w := Width_any dash s w
 generalize hyW s = r at *
 generalize wErr dash s = q at *
 go_enter Tryz.func228,Tryz.ntmps228
 go_wp2_with (go_at_call 184; refine h.mono ?_; rintro e w' ⟨rfl,hww⟩; subst w')
 go_ret
 exact ⟨rfl,rfl⟩

def alB (m : Ms) : Bool := decide (m.k = 3 ∨ m.k = 4 ∨ m.k = 5)
def loneI (m : Ms) : It := if m.k = 3 then ⟨2,m.f,m.t,m.w,m.w / 2,m.w / 3,0,false⟩ else if m.k = 4 then ⟨4,m.f,m.t,0,0,0,0,false⟩ else if m.k = 5 then ⟨3,m.f,m.t,hyW m.s,0,0,50,true⟩ else it0
def msC (m : Ms) : Array Value := #[.int .i64 m.f,.int .i64 m.t,.int .i64 m.k,.int .i64 m.s,.int .i64 m.w,.int .i64 m.q]

theorem two_new (w : World) (o : Obj) (x : It) : ((w.alloc o).alloc (.cells (itC x) 125)).heap[w.heap.size + 1]? = some (.cells (itC x) 125 (0,0)) := by
 have := heap_new (w.alloc o) (.cells (itC x) 125)
 rwa [World.size_alloc] at this
theorem two_below (w : World) (o p : Obj) : Below w.heap.size w ((w.alloc o).alloc p) := by
 have h := (Below.refl w.heap.size w).alloc (Nat.le_refl _) o
 exact h.alloc h.size p

end Go.Proofs.YtaphggjakaghjaaGreatDoor
