/-
  What is proved here: the natural width of a run of masses, as Natural of metric tells it.
  What is proved here: how lists of masses and paragraphs that are handed in look.
  What is proved here: the map of ways in memory, read, turned and kept.
  What is proved here: a plan in memory; what number and MinFunc answer.
  What is proved here: what MinFunc answers.
-/
import Derived.Test.YtfndocmgonlhpaaGreatDoorG19
import Derived.ProofKit
import Derived.OpenShut
import Derived.ChangeOld
import Derived.Below
import Derived.Deep.Slices
import Derived.SizedLaws
import Derived.Maps.OwnSet
import Derived.DeepKeys4
import Derived.Test.YtfndocmgonlhpaaGreatDoorG1
namespace Go.Proofs.YtfndocmgonlhpaaGreatDoor
open Go.RowKit Go.Shelf
set_option maxRecDepth 100000
set_option maxHeartbeats 4000000

def mOk (m : Ms) : Bool := decide ((0 ≤ m.w ∧ m.w ≤ 4095) ∧ (-64 ≤ m.q ∧ m.q ≤ 0))
def ms0 : Ms := ⟨0,0,0,0,0,0⟩
def runN (l : List Ms) (f : Nat) : Nat → Int
 | 0 => 0
 | k + 1 => runN l f k + (l.getD (f + k) ms0).w + (if 0 < k then (l.getD (f + k) ms0).q else 0)
def natE (l : List Ms) (f t : Int) : Int := if 4096 < l.length then 3 else if l.all mOk = true then (if 0 ≤ f ∧ f ≤ t ∧ t ≤ l.length then 0 else 5) else 2
def natV (l : List Ms) (f t : Int) : Int := if natE l f t = 0 then runN l f.toNat (t.toNat - f.toNat) else 0
theorem getD_is {l : List Ms} {i : Nat} (h : i < l.length) : l.getD i ms0 = l[i] := by rw [List.getD_eq_getElem?_getD,List.getElem?_eq_getElem h]; rfl
theorem run_rng {l : List Ms} (h : l.all mOk = true) (f : Nat) : ∀ k,f + k ≤ l.length → -64 * (k : Int) ≤ runN l f k ∧ runN l f k ≤ 4095 * (k : Int)
 | 0,_ => by simp [runN]
 | k + 1, hk => by
  have ih := run_rng h f k (by omega)
  have hm := List.all_eq_true.1 h l[f + k] (List.getElem_mem (by omega))
  unfold mOk at hm
  rw [decide_eq_true_eq] at hm
  have e : runN l f (k + 1) = runN l f k + l[f + k].w + (if 0 < k then l[f + k].q else 0) := by
   show runN l f k + (l.getD (f + k) ms0).w + (if 0 < k then (l.getD (f + k) ms0).q else 0) = _
   rw [getD_is (show f + k < l.length by omega)]
  rw [e]
  split <;> omega
theorem all_no {l : List Ms} {k : Nat} (hk : k < l.length) (h : mOk l[k] = false) : l.all mOk = false := List.all_eq_false.2 ⟨l[k],List.getElem_mem hk,by simp [h]⟩
theorem all_yes {l : List Ms} (h : ∀ k (hk : k < l.length),mOk l[k] = true) : l.all mOk = true := List.all_eq_true.2 fun b hb => by
 obtain ⟨k,hk,rfl⟩ := List.getElem_of_mem hb
 exact h k hk
theorem all_at {l : List Ms} (h : l.all mOk = true) {k : Nat} (hk : k < l.length) : mOk l[k] = true := List.all_eq_true.1 h _ (List.getElem_mem hk)

def nat2 (m : Ms) : List Bd := [(m.w,0,4095),(m.q,-64,0)]
theorem nat2_keep (m : Ms) : keepB (nat2 m) = mOk m := by
 unfold keepB nat2 bdB mOk
 rw [Bool.eq_iff_iff]
 simp only [List.all_cons,List.all_nil,Bool.and_true,Bool.and_eq_true,decide_eq_true_eq]

theorem slice36 (a : Option Addr) (n cap f t : Nat) (W : World) (h1 : f ≤ t) (h2 : t ≤ cap) : ∃ a',(Instr.slice 62 (.slice a n cap) (some (.int .i64 (f : Int))) (some (.int .i64 (t : Int))) none).run Tryz.prog W = .ok (.slice a' (t - f) (cap - f)) W ∧ (∀ b o,a = some ⟨b,o,none⟩ → f < t → a' = some ⟨b,o + f * 6,none⟩) := by
 have he : Tryz.prog.elem 62 = 66 := by kernel_rfl
 have hu : Tryz.prog.underlying 62 = some (.slice (Tryz.prog.elem 62)) := by rw [he]; exact Tryz.underlying62
 have hr := run_slice_lh (P := Tryz.prog) (w := W) 62 a n cap hu .i64 .i64 f t (by omega) (by omega) (by omega)
 have hs : (sizeOf (Tryz.prog.elem 62)).run Tryz.prog W = .ok 6 W := by kernel_rfl
 rw [hs] at hr
 simp only [Result.andThen,sliced,Int.toNat_natCast] at hr
 refine ⟨_,hr,fun b o e hlt => ?_⟩
 rw [if_neg (by omega),e]
 simp [addr_add]

theorem natural_any (v : Value) (l : List Ms) (hl : l.length ≤ 9223372036854775807) (f t : Int) (w : World) (hS : RecAt 6 msL w v l) :
  Calls Tryz.prog 89 #[v,.int .i64 f,.int .i64 t] w fun e w' => e = .returned (.tuple #[.int .i64 (natV l f t),.int .i64 (natE l f t)]) ∧ Below w.heap.size w w' := by
 have hle := hS.le
 obtain ⟨a,cap,rfl,h2⟩ := hS.ex
 have hcap := hle _ _ _ rfl
 clear hS hle
 by_cases hlong : 4096 < l.length
 ·have e1 : natE l f t = 3 := if_pos hlong
  have e2 : natV l f t = 0 := by unfold natV; rw [e1]; rfl
  rw [e1,e2]
  clear e1 e2
  go_enter Tryz.func89,Tryz.ntmps89
  go_wp2_with fail
  go_ret2
  exact ⟨rfl,Below.refl _ _⟩
 ·have hr : Hid (∀ (W : World) (m : Nat) (r : Ms),W.heap.size = m → Calls Tryz.prog 73 #[.slice (some ⟨m,0,none⟩) 2 2] (W.alloc (.cells #[.int .i64 r.w,.int .i64 0,.int .i64 4095,.int .i64 r.q,.int .i64 (-64),.int .i64 0] 191)) fun e w' => e = .returned (.bool (mOk r)) ∧ Below W.heap.size W w') := fun W m r hm => by
   subst hm
   have h := keep_any _ (nat2 r) (by show 2 ≤ 100; omega) _ (rec_new (k := 3) bdL_len W 191 (nat2 r))
   rw [nat2_keep] at h
   refine h.mono ?_
   rintro e w' ⟨rfl,hb⟩
   exact ⟨rfl,((Below.refl _ W).alloc (Nat.le_refl _) _).trans (hb.mono (by simp))⟩
  have hno : Hid (l.all mOk = false → natE l f t = 2 ∧ natV l f t = 0) := fun h => by
   have e : natE l f t = 2 := by unfold natE; rw [if_neg hlong,h]; rfl
   refine ⟨e,?_⟩; unfold natV; rw [e]; rfl
  have hre : Hid (l.all mOk = true → ¬ (0 ≤ f ∧ f ≤ t ∧ t ≤ l.length) → natE l f t = 5 ∧ natV l f t = 0) := fun h h3 => by
   have e : natE l f t = 5 := by unfold natE; rw [if_neg hlong,h,if_pos rfl,if_neg h3]
   refine ⟨e,?_⟩; unfold natV; rw [e]; rfl
  have hyes : Hid (l.all mOk = true → (0 ≤ f ∧ f ≤ t ∧ t ≤ l.length) → natE l f t = 0 ∧ natV l f t = runN l f.toNat (t.toNat - f.toNat)) := fun h h3 => by
   have e : natE l f t = 0 := by unfold natE; rw [if_neg hlong,h,if_pos rfl,if_pos h3]
   refine ⟨e,?_⟩; unfold natV; rw [e]; rfl
  generalize natE l f t = E at *
  generalize natV l f t = V at *
  have hlong' : ¬ (4096 : Int) < l.length := by omega
  go_enter Tryz.func89,Tryz.ntmps89
  go_wp2_with fail
  go_loopw [18] (fun i wr => ∃ k : Nat,k ≤ l.length ∧ i = .int .i64 k ∧ Below w.heap.size w wr ∧ Hid (∀ j (hj : j < l.length),j < k → mOk l[j] = true)) (fun i _ => l.length - (intOf i).toNat)
  case atStart => exact ⟨0,by omega,rfl,Below.refl _ _,fun j _ hj => by omega⟩
  case round =>
   obtain ⟨k,hk,rfl,hb,hall⟩ := hrel
   by_cases hlt : k < l.length
   ·rcases h2 with h2 | ⟨b,o,rfl,hbl,hc⟩
    ·rw [h2] at hlt; simp at hlt
    ·have c0 : wr.cell? ⟨b,o + k * 6,none⟩ = some (.int .i64 l[k].f) := (hb.cell hbl).trans (hc k hlt 0 _ rfl)
     have c1 : wr.cell? ⟨b,o + k * 6 + 1,none⟩ = some (.int .i64 l[k].t) := (hb.cell hbl).trans (hc k hlt 1 _ rfl)
     have c2 : wr.cell? ⟨b,o + k * 6 + 2,none⟩ = some (.int .i64 l[k].k) := (hb.cell hbl).trans (hc k hlt 2 _ rfl)
     have c3 : wr.cell? ⟨b,o + k * 6 + 3,none⟩ = some (.int .i64 l[k].s) := (hb.cell hbl).trans (hc k hlt 3 _ rfl)
     have c4 : wr.cell? ⟨b,o + k * 6 + 4,none⟩ = some (.int .i64 l[k].w) := (hb.cell hbl).trans (hc k hlt 4 _ rfl)
     have c5 : wr.cell? ⟨b,o + k * 6 + 5,none⟩ = some (.int .i64 l[k].q) := (hb.cell hbl).trans (hc k hlt 5 _ rfl)
     have hlt' : (k : Int) < l.length := by omega
     have hw := hb.size
     have hr' : Hid (Calls Tryz.prog 73 #[.slice (some ⟨wr.heap.size + 1,0,none⟩) 2 2] ((wr.alloc (.cells #[.int .i64 l[k].f,.int .i64 l[k].t,.int .i64 l[k].k,.int .i64 l[k].s,.int .i64 l[k].w,.int .i64 l[k].q] 66)).alloc (.cells #[.int .i64 l[k].w,.int .i64 0,.int .i64 4095,.int .i64 l[k].q,.int .i64 (-64),.int .i64 0] 191)) fun e w' => e = .returned (.bool (mOk l[k])) ∧ Below w.heap.size w w') := by
      have := hr.out (wr.alloc (.cells #[.int .i64 l[k].f,.int .i64 l[k].t,.int .i64 l[k].k,.int .i64 l[k].s,.int .i64 l[k].w,.int .i64 l[k].q] 66)) (wr.heap.size + 1) l[k] (World.size_alloc _ _)
      refine this.mono ?_
      rintro e w' ⟨rfl,hB⟩
      exact ⟨rfl,(hb.alloc hb.size _).trans (hB.mono (by simp; omega))⟩
     clear hr hc
     cases hv : mOk l[k]
     ·rw [hv] at hr'
      obtain ⟨e1,e2⟩ := hno.out (all_no hlt hv)
      subst e1 e2
      clear hno hre hyes hall hv
      generalize l[k].f = x0 at *
      generalize l[k].t = x1 at *
      generalize l[k].k = x2 at *
      generalize l[k].s = x3 at *
      generalize l[k].w = x4 at *
      generalize l[k].q = x5 at *
      go_wp2_with (go_at_call 73; refine hr'.out.mono ?_; rintro e w' ⟨rfl,hB⟩)
      go_ret2
      exact ⟨rfl,hB⟩
     ·rw [hv] at hr'
      have hy : Hid (∀ j (hj : j < l.length),j < k + 1 → mOk l[j] = true) := fun j hj hjk => by
       by_cases h : j < k
       ·exact hall.out j hj h
       ·obtain rfl : j = k := by omega
        exact hv
      clear hno hre hyes hall hv
      generalize l[k].f = x0 at *
      generalize l[k].t = x1 at *
      generalize l[k].k = x2 at *
      generalize l[k].s = x3 at *
      generalize l[k].w = x4 at *
      generalize l[k].q = x5 at *
      go_wp2_with (go_at_call 73; refine hr'.out.mono ?_; rintro e w' ⟨rfl,hB⟩)
      go_roundw
      case rel => exact ⟨k + 1,by omega,by simp,hB,hy⟩
      case measure => simp [intOf]; omega
   ·obtain rfl : k = l.length := by omega
    have hall' : l.all mOk = true := all_yes (fun j hj => hall.out j hj hj)
    have hge : ¬ ((l.length : Int) < l.length) := by omega
    by_cases h3 : 0 ≤ f ∧ f ≤ t ∧ t ≤ l.length
    ·obtain ⟨e1,e2⟩ := hyes.out hall' h3
     obtain ⟨h30,h31,h32⟩ := h3
     obtain ⟨F,rfl⟩ : ∃ F : Nat,f = F := ⟨f.toNat,by omega⟩
     obtain ⟨T,rfl⟩ : ∃ T : Nat,t = T := ⟨t.toNat,by omega⟩
     obtain ⟨a',hsl,hsa⟩ := slice36 a l.length cap F T wr (by omega) (by omega)
     have hrun : Hid (V = runN l F (T - F)) := by rw [e2]; rfl
     have hAll : Hid (l.all mOk = true) := hall'
     subst e1
     clear e2 hyes hre hno hr hall hall'
     have hF0 : ¬ (F : Int) < 0 := by omega
     have hTF : ¬ (T : Int) < F := by omega
     have hTl : ¬ (l.length : Int) < T := by omega
     obtain ⟨n,hn⟩ : ∃ n,T - F = n := ⟨_,rfl⟩
     rw [hn] at hsl hrun
     have hn4 : n ≤ 4096 := by omega
     go_wp2_with fail
     go_loopw [10,50] (fun s i wr2 => ∃ j : Nat,j ≤ n ∧ i = .int .i64 j ∧ s = .int .i64 (runN l F j) ∧ Below w.heap.size w wr2) (fun _ i _ => n - (intOf i).toNat)
     case atStart => exact ⟨0,by omega,rfl,rfl,hb⟩
     case round =>
      obtain ⟨j,hj,rfl,rfl,hb2⟩ := hrel
      by_cases hjn : j < n
      ·rcases h2 with h2 | ⟨b,o,rfl,hbl,hc⟩
       ·rw [h2] at h32; simp at h32; omega
       ·have ha' := hsa b o rfl (by omega)
        subst ha'
        have hjl : F + j < l.length := by omega
        have e0 : o + (F + j) * 6 = o + F * 6 + j * 6 := by rw [Nat.add_mul]; omega
        have hcj : ∀ q u,(msL l[F + j])[q]? = some u → wr.cell? ⟨b,o + F * 6 + j * 6 + q,none⟩ = some u := fun q u hu => by
         have := (hb2.cell hbl).trans (hc (F + j) hjl q u hu)
         rwa [e0] at this
        have c0 : wr.cell? ⟨b,o + F * 6 + j * 6,none⟩ = some (.int .i64 l[F + j].f) := hcj 0 _ rfl
        have c1 : wr.cell? ⟨b,o + F * 6 + j * 6 + 1,none⟩ = some (.int .i64 l[F + j].t) := hcj 1 _ rfl
        have c2 : wr.cell? ⟨b,o + F * 6 + j * 6 + 2,none⟩ = some (.int .i64 l[F + j].k) := hcj 2 _ rfl
        have c3 : wr.cell? ⟨b,o + F * 6 + j * 6 + 3,none⟩ = some (.int .i64 l[F + j].s) := hcj 3 _ rfl
        have c4 : wr.cell? ⟨b,o + F * 6 + j * 6 + 4,none⟩ = some (.int .i64 l[F + j].w) := hcj 4 _ rfl
        have c5 : wr.cell? ⟨b,o + F * 6 + j * 6 + 5,none⟩ = some (.int .i64 l[F + j].q) := hcj 5 _ rfl
        have hr0 := run_rng hAll.out F j (by omega)
        have hm := all_at hAll.out hjl
        unfold mOk at hm
        rw [decide_eq_true_eq] at hm
        have hst : Hid (runN l F (j + 1) = runN l F j + l[F + j].w + (if 0 < j then l[F + j].q else 0)) := by
         show runN l F j + (l.getD (F + j) ms0).w + (if 0 < j then (l.getD (F + j) ms0).q else 0) = _
         rw [getD_is hjl]
        have hjn' : (j : Int) < n := by omega
        have hb2' : Hid (Below w.heap.size w wr) := hb2
        have hb3 : Hid (Below w.heap.size w (wr.alloc (.cells #[.int .i64 l[F + j].f,.int .i64 l[F + j].t,.int .i64 l[F + j].k,.int .i64 l[F + j].s,.int .i64 l[F + j].w,.int .i64 l[F + j].q] 66))) := hb2.alloc hb2.size _
        obtain ⟨off,hoff⟩ : ∃ off,o + F * 6 = off := ⟨_,rfl⟩
        rw [hoff] at c0 c1 c2 c3 c4 c5
        rw [hoff] at hsl
        rw [hoff]
        clear hcj hc e0 hoff hsa hb2 hsl
        generalize l[F + j].f = x0 at *
        generalize l[F + j].t = x1 at *
        generalize l[F + j].k = x2 at *
        generalize l[F + j].s = x3 at *
        generalize l[F + j].w = x4 at *
        generalize l[F + j].q = x5 at *
        generalize hR : runN l F j = R at *
        obtain ⟨⟨m0,m1⟩,m2,m3⟩ := hm
        obtain ⟨r0,r1⟩ := hr0
        by_cases hj0 : j = 0
        ·have hz : Hid (runN l F (j + 1) = R + x4) := hst.out.trans (by rw [if_neg (by omega),Int.add_zero])
         have hj0' : ¬ (0 : Int) < j := by omega
         have hj0'' : decide ((0 : Int) < j) = false := decide_eq_false hj0'
         clear hst hj0
         go_wp2_with fail
         go_roundw
         case rel => exact ⟨j + 1,by omega,by simp,by rw [hz.out],hb3⟩
         case measure => simp [intOf]; omega
        ·have hz : Hid (runN l F (j + 1) = R + x4 + x5) := hst.out.trans (by rw [if_pos (by omega)])
         have hj0' : (0 : Int) < j := by omega
         clear hst hj0
         go_wp2_with fail
         go_roundw
         case rel => exact ⟨j + 1,by omega,by simp,by rw [hz.out],hb3⟩
         case measure => simp [intOf]; omega
      ·obtain rfl : j = n := by omega
       have hv := hrun.out
       subst hv
       clear hrun h2 hsl hsa hn
       go_wp2_with fail
       go_ret2
       exact ⟨rfl,hb2⟩
    ·obtain ⟨e1,e2⟩ := hre.out hall' h3
     subst e1 e2
     clear hyes hre hno hr hall hall' h2
     have h3' : f < 0 ∨ (0 ≤ f ∧ t < f) ∨ (0 ≤ f ∧ f ≤ t ∧ (l.length : Int) < t) := by omega
     clear h3
     rcases h3' with h3 | ⟨h3,h4⟩ | ⟨h3,h4,h5⟩
     all_goals
      go_wp2_with fail
      go_ret2
      exact ⟨rfl,hb⟩

end Go.Proofs.YtfndocmgonlhpaaGreatDoor

namespace Go.Proofs.YtfndocmgonlhpaaGreatDoor
open Go.ChangeShapes Go.WideShapes Go.ChangeAt Go.RowKit

theorem own : ownKnob Tryz.prog.godebug = none := by kernel_rfl
theorem laidOut : laidOutB Tryz.prog = true := by kernel_rfl

end Go.Proofs.YtfndocmgonlhpaaGreatDoor

namespace Go.Proofs.YtfndocmgonlhpaaGreatDoor
open Go.RowKit Go.Shelf
open Go.Maps (Keyed)
set_option maxRecDepth 100000

theorem row100 : (100 : TypeId) < Tryz.prog.types.size := of_decide_eq_true (by kernel_rfl)
theorem wide100 : (match Tryz.prog.underlying 100 with | some (.array _ _) | some (.struct _) => true | _ => false) = true := by rw [Tryz.underlying100]
theorem kt100 : Tryz.prog.keyTypeAt 2 100 = true := by kernel_rfl
theorem two10000 : 2 + 1 ≤ 10000 := by omega
theorem law100 : Keyed Tryz.prog 100 := Keyed.of_law (deep_law_laid (m := 2) laidOut two10000 row100 kt100 wide100)
def SpB (c : Nat × Nat) : Prop := c.1 ≤ 100000 ∧ c.2 ≤ 100000
def spV (c : Nat × Nat) : Value := .agg #[.int .i64 c.1,.int .i64 c.2]
def enS (c : Nat × Nat) : Lit := .string (keyBytes [.int .i64 c.1,.int .i64 c.2])
theorem lits3 {n : Int} (d : Nat) (h : (Lit.int .i64 n).wf = true) : Tryz.prog.keyLits (d + 1) 3 [.int .i64 n] = some [.int .i64 n] := by
 unfold Program.keyLits
 rw [Tryz.underlying3]
 simp [h]
theorem keyOf100 {c : Nat × Nat} (h : SpB c) : keyOf Tryz.prog 100 (spV c) = some (enS c) := by
 obtain ⟨i,j⟩ := c
 obtain ⟨h1,h2⟩ := h
 simp only at h1 h2
 have m1 : IntKind.i64.min = -9223372036854775808 := rfl
 have m2 : IntKind.i64.max = 9223372036854775807 := rfl
 have w1 : (Lit.int .i64 (i : Int)).wf = true := by simp [Lit.wf,m1,m2]; omega
 have w2 : (Lit.int .i64 (j : Int)).wf = true := by simp [Lit.wf,m1,m2]; omega
 have hs : Tryz.prog.types.size = 283 + 1 + 1 := by kernel_rfl
 have hk : Tryz.prog.keyType 100 = true := by kernel_rfl
 have hf : (spV (i,j)).formed Tryz.prog 100 = true := by kernel_rfl
 have c1 : Tryz.prog.cellsOf 100 = 2 := by kernel_rfl
 have c3 : Tryz.prog.cellsOf 3 = 1 := by kernel_rfl
 have hl : Tryz.prog.keyLits (Tryz.prog.types.size + 1) 100 (spV (i,j)).cells.toList = some [.int .i64 i,.int .i64 j] := by
  rw [hs]
  unfold Program.keyLits
  rw [Tryz.underlying100]
  show (if _ then _ else _) = _
  rw [if_pos ⟨by rw [c1]; rfl,by kernel_rfl⟩]
  simp only [List.mapM_cons,List.mapM_nil,c3]
  rw [show List.take 1 (List.drop 0 (spV (i,j)).cells.toList) = [.int .i64 (i : Int)] from rfl,show List.take 1 (List.drop 1 (spV (i,j)).cells.toList) = [.int .i64 (j : Int)] from rfl,lits3 _ w1,lits3 _ w2]
  rfl
 unfold keyOf
 rw [Tryz.underlying100]
 show (if _ then _ else _) = _
 rw [hk,hf,hl]
 rfl
theorem enS_inj {a b : Nat × Nat} (ha : SpB a) (hb : SpB b) (h : enS a = enS b) : a = b := by
 have h1 := keyOf100 ha
 have h2 := keyOf100 hb
 rw [← h] at h2
 have h3 := law100.inj h1 h2
 obtain ⟨a1,a2⟩ := a
 obtain ⟨b1,b2⟩ := b
 simp only [spV] at h3
 simp at h3
 have e1 : a1 = b1 := by omega
 have e2 : a2 = b2 := by omega
 rw [e1,e2]
theorem enS_key (a : Nat × Nat) : WideAt.IsKeyLit (enS a) := trivial
def R0 (v : Value) : Option (DataW Value × List MemPlace) := some (.held v,[])
def wyV (x : Wy) : Value := .agg #[.int .i64 x.d,.int .i64 x.n,.int .i64 x.f]
def MapW (w : World) (mb : Nat) (f : Nat × Nat → Option Wy) (M : Nat) : Prop :=
 ∃ D,w.ownsMap Tryz.prog 100 R0 mb M D ∧ ∀ c,SpB c → ∀ z,D.atKey (enS c) z = (f c).elim z (fun y => .held (wyV y))
section
variable {w w' : World} {mb M : Nat} {f : Nat × Nat → Option Wy}
theorem MapW.lt (h : MapW w mb f M) : mb < w.heap.size := by obtain ⟨D,h1,_⟩ := h; exact h1.lt
theorem MapW.same (h : MapW w mb f M) (hb : w'.heap[mb]? = w.heap[mb]?) : MapW w' mb f M := by
 obtain ⟨D,⟨es,clock,hb2,r⟩,h2⟩ := h
 exact ⟨D,⟨es,clock,hb.trans hb2,r⟩,h2⟩
theorem MapW.turns {X : Nat → Prop} (h : MapW w mb f M) (ht : Turns X w w') (hx : ¬ X mb) : MapW w' mb f M := h.same (ht.block mb h.lt hx)
theorem MapW.below {n : Nat} (h : MapW w mb f M) (hb : Below n w w') (hn : mb < n) : MapW w' mb f M := h.same (hb.block mb hn)
theorem MapW.made (w : World) : MapW (w.alloc (.map #[] 0)) w.heap.size (fun _ => none) 0 :=
 ⟨.map [],World.ownsMap_made w Tryz.prog 100 R0,fun c _ z => by
  show DataW.atKey (.map []) (enS c) z = z
  rfl⟩
theorem zero58 (w : World) : (zeroValue 58).run Tryz.prog w = .ok (wyV wy0) w := by kernel_rfl
theorem MapW.look (h : MapW w mb f M) (c : Nat × Nat) (hc : SpB c) : (Instr.lookup 54 (.map (some mb)) (spV c) false).run Tryz.prog w = .ok (wyV ((f c).getD wy0)) w := by
 obtain ⟨D,h1,h2⟩ := h
 obtain ⟨v,ps,hrun,hv⟩ := h1.lookup law100 Tryz.underlying54 (zero58 w) (zd := .held (wyV wy0)) (zp := []) rfl (keyOf100 hc)
 simp only [R0,Option.some.injEq,Prod.mk.injEq] at hv
 obtain ⟨hv,_⟩ := hv
 rw [h2 c hc] at hv
 rw [hrun]
 cases hf : f c with
 | none => rw [hf] at hv; cases hv; rfl
 | some u => rw [hf] at hv; cases hv; rfl
theorem MapW.look_ok (h : MapW w mb f M) (c : Nat × Nat) (hc : SpB c) : (Instr.lookup 54 (.map (some mb)) (spV c) true).run Tryz.prog w = .ok (.tuple #[wyV ((f c).getD wy0),.bool (f c).isSome]) w := by
 obtain ⟨D,h1,h2⟩ := h
 have h3 : Maps.has D (enS c) = (f c).isSome := by
  cases hf : f c with
  | none => exact Maps.has_false_of_atKey fun z => by rw [h2 c hc,hf]; rfl
  | some u => exact Maps.has_true_of_atKey (y := .held (wyV u)) fun z => by rw [h2 c hc,hf]; rfl
 obtain ⟨v,ps,hrun,hv⟩ := h1.look_ok law100 Tryz.underlying54 (zero58 w) (zd := .held (wyV wy0)) (zp := []) rfl (keyOf100 hc)
 simp only [R0,Option.some.injEq,Prod.mk.injEq] at hv
 obtain ⟨hv,_⟩ := hv
 rw [h2 c hc] at hv
 rw [hrun,h3]
 cases hf : f c with
 | none => rw [hf] at hv; cases hv; rfl
 | some u => rw [hf] at hv; cases hv; rfl
def updW (f : Nat × Nat → Option Wy) (c : Nat × Nat) (x : Wy) : Nat × Nat → Option Wy := fun a => if a = c then some x else f a
theorem MapW.put (h : MapW w mb f M) (hM : M < maxLen) (c : Nat × Nat) (hc : SpB c) (x : Wy) :
  ∃ w',(Instr.mapUpdate 54 (.map (some mb)) (spV c) (wyV x)).run Tryz.prog w = .ok () w' ∧ MapW w' mb (updW f c x) (M + 1) ∧ Turns (fun k => k = mb) w w' := by
 obtain ⟨D,h1,h2⟩ := h
 obtain ⟨w',hrun,ho,hg⟩ := h1.update law100 Tryz.underlying54 hM (keyOf100 hc) (val := wyV x) (d := .held (wyV x)) (ps := []) rfl
 refine ⟨w',hrun,⟨_,ho,fun a ha z => ?_⟩,⟨hg.os,hg.tape,hg.output,hg.size,fun k hk hx => hg.block k hk (by simp; exact hx)⟩⟩
 unfold updW
 by_cases e : a = c
 ·subst e
  rw [if_pos rfl]
  exact Maps.atKey_put_same h1.isMap (enS_key _) _ _
 ·rw [if_neg e,Maps.atKey_put_other (fun h => e (enS_inj ha hc h)),h2 a ha]
end
end Go.Proofs.YtfndocmgonlhpaaGreatDoor

namespace Go.Proofs.YtfndocmgonlhpaaGreatDoor
open Go.RowKit Go.Shelf
set_option maxRecDepth 100000
set_option maxHeartbeats 1000000

structure Pl where
 B : Nat
 gs : Nat
 os : Nat
 cs : Nat
 gw : Nat
 ow : Nat
 cw : Nat
 mb : Nat
 sts : List St
 wds : List Int
structure PlS (P : Pl) (W : World) : Prop where
 obj : W.heap[P.B]? = some (.cells #[.slice (some ⟨P.gs,P.os,none⟩) P.sts.length P.cs,.slice (some ⟨P.gw,P.ow,none⟩) P.wds.length P.cw,.map (some P.mb)] 56 (0,0))
 st : ∀ i (hi : i < P.sts.length),StAt P.gs (P.os + i * 12) P.sts[i] W
 wd : ∀ i (hi : i < P.wds.length),W.cell? ⟨P.gw,P.ow + i,none⟩ = some (.int .i64 P.wds[i])
 lw : P.gw < W.heap.size
 ls : P.gs < W.heap.size
 nB : P.B ≠ P.mb
 ns : P.gs ≠ P.mb
 nw : P.gw ≠ P.mb
structure PlOk (l : List It) (P : Pl) : Prop where
 ck : ckL l = 0
 f : ∀ x ∈ P.sts,StF l x ∧ StOk x
 w : ∀ x ∈ P.wds,0 ≤ x ∧ x ≤ 4095
 ns : 0 < P.sts.length ∧ P.sts.length ≤ 8193
 nw : 0 < P.wds.length ∧ P.wds.length ≤ 257
section
variable {P : Pl} {W W' : World}
theorem PlS.lB (h : PlS P W) : P.B < W.heap.size := (Array.getElem?_eq_some_iff.1 h.obj).1
theorem PlS.keep {X : Nat → Prop} (h : PlS P W) (ht : Turns X W W') (h1 : ¬ X P.B) (h2 : ¬ X P.gs) (h3 : ¬ X P.gw) : PlS P W' :=
 ⟨(ht.block _ h.lB h1).trans h.obj, fun i hi => (h.st i hi).turns ht h2, fun i hi => by
   have e := ht.block P.gw h.lw h3
   have := h.wd i hi
   unfold World.cell? at this ⊢
   simp only [e]
   exact this,Nat.lt_of_lt_of_le h.lw ht.size,Nat.lt_of_lt_of_le h.ls ht.size,h.nB,h.ns,h.nw⟩
theorem PlS.below (h : PlS P W) (hb : Below W.heap.size W W') : PlS P W' := h.keep (Turns.of_below hb) (fun h => h) (fun h => h) (fun h => h)
theorem PlS.map (h : PlS P W) (ht : Turns (fun k => k = P.mb) W W') : PlS P W' := h.keep ht h.nB h.ns h.nw
theorem PlS.drew (h : PlS P W) : PlS P W.drew := h.keep (Turns.drew Noth W) (fun h => h) (fun h => h) (fun h => h)
theorem PlS.c0 (h : PlS P W) : W.cell? ⟨P.B,0,none⟩ = some (.slice (some ⟨P.gs,P.os,none⟩) P.sts.length P.cs) := by rw [Lib.cell_of_heap h.obj]; rfl
theorem PlS.c1 (h : PlS P W) : W.cell? ⟨P.B,1,none⟩ = some (.slice (some ⟨P.gw,P.ow,none⟩) P.wds.length P.cw) := by rw [Lib.cell_of_heap h.obj]; rfl
theorem PlS.c2 (h : PlS P W) : W.cell? ⟨P.B,2,none⟩ = some (.map (some P.mb)) := by rw [Lib.cell_of_heap h.obj]; rfl
end
def nuN (P : Pl) (n : Nat) : Nat := min n (P.wds.length - 1)
theorem number_any (P : Pl) (n : Nat) (_hn : n ≤ 100000) (hw : 0 < P.wds.length ∧ P.wds.length ≤ 257) (w : World) (hP : PlS P w) : Calls Tryz.prog 38 #[.pointer (some ⟨P.B,0,none⟩),.int .i64 n] w fun e w' => e = .returned (.int .i64 (nuN P n)) ∧ w' = w := by
 have c1 := hP.c1
 have h1 : (1 : Int) ≤ P.wds.length := by omega
 have h2 : (P.wds.length : Int) ≤ 257 := by omega
 have hv1 : Hid ((P.wds.length : Int) - 1 < (n : Int) → (P.wds.length : Int) - 1 = (nuN P n : Nat)) := fun e => by unfold nuN; omega
 have hv2 : Hid (¬ (P.wds.length : Int) - 1 < (n : Int) → (n : Int) = (nuN P n : Nat)) := fun e => by unfold nuN; omega
 clear hP
 generalize nuN P n = R at *
 go_enter Tryz.func38,Tryz.ntmps38
 go_wp2_with fail
 all_goals (go_ret; first | exact ⟨by rw [← hv1.out (by omega)]; rfl,rfl⟩ | exact ⟨by rw [← hv2.out (by omega)]; rfl,rfl⟩)
abbrev WysAt (W : World) (v : Value) (xs : List Wy) : Prop := RecAt 3 wyL W v xs
def minG : List Wy → Wy → Wy
 | [],m => m
 | x :: r,m => minG r (if cmpW x m < 0 then x else m)
theorem minG_go {L : List Wy} {k : Nat} {m : Wy} (hk : k < L.length) : minG (L.drop k) m = minG (L.drop (k + 1)) (if cmpW L[k] m < 0 then L[k] else m) := by
 rw [List.drop_eq_getElem_cons hk]
 rfl
def minW (L : List Wy) : Wy := minG (L.drop 1) (L.getD 0 wy0)
theorem wys_at {W : World} {a : Option Addr} {n cap : Nat} {L : List Wy} (h : WysAt W (.slice a n cap) L) {i : Nat} (hi : i < L.length) : ∃ b o,a = some ⟨b,o,none⟩ ∧ b < W.heap.size ∧ ∀ W',Below W.heap.size W W' → W'.cell? ⟨b,o + i * 3,none⟩ = some (.int .i64 L[i].d) ∧ W'.cell? ⟨b,o + i * 3 + 1,none⟩ = some (.int .i64 L[i].n) ∧ W'.cell? ⟨b,o + i * 3 + 2,none⟩ = some (.int .i64 L[i].f) := by
 obtain ⟨a',cap',h1,h2⟩ := h.ex
 cases h1
 rcases h2 with h2 | ⟨b,o,rfl,hb,hc⟩
 ·subst h2; simp at hi
 ·exact ⟨b,o,rfl,hb,fun W' hW => ⟨(hW.cell hb).trans (hc i hi 0 _ rfl),(hW.cell hb).trans (hc i hi 1 _ rfl),(hW.cell hb).trans (hc i hi 2 _ rfl)⟩⟩
end Go.Proofs.YtfndocmgonlhpaaGreatDoor

namespace Go.Proofs.YtfndocmgonlhpaaGreatDoor
open Go.RowKit Go.Shelf
set_option maxRecDepth 100000
set_option maxHeartbeats 4000000

structure MnS (M b q : Nat) (x m : Wy) (W : World) : Prop where
 x : W.rangeAt b q (wyL x)
 m : W.heap[M]? = some (.cells (wyL m).toArray 58 (0,0))
 lb : b < W.heap.size
theorem MnS.below {M b q : Nat} {x m : Wy} {W W' : World} (h : MnS M b q x m W) (hb : Below W.heap.size W W') : MnS M b q x m W' := ⟨fun j u hu => (hb.cell h.lb).trans (h.x j u hu),(hb.block _ (Array.getElem?_eq_some_iff.1 h.m).1).trans h.m,Nat.lt_of_lt_of_le h.lb hb.size⟩
def fr35 (v0 v1 v2 v3 v4 v5 v6 v7 v8 v9 xa xb xc xd xe xf xg xh xi xj xk xl xm xn xo xp xq xr xt xu xv xw xx : Value) : Act := { tmps := #[v0,v1,v2,v3,v4,v5,v6,v7,v8,v9,xa,xb,xc,xd,xe,xf,xg,xh,xi,xj,xk,xl,xm,xn,xo,xp,xq,xr,xt,xu,xv,xw,xx],defers := [] }
def ops35_7_0 (ps : String) : Oper := ⟨some 20,.move (.tmp 1),104,ps,#[],none⟩
def ops35_7_1 (ps : String) : Oper := ⟨some 21,.move (.tmp 0),102,ps,#[],none⟩
def ops35_7_2 (ps : String) : Oper := ⟨some 22,.move (.tmp 6),3,ps,#[],none⟩
def ops35_7_3 (ps : String) : Oper := ⟨some 23,.indexAddr 102 (.tmp 21) (.tmp 22),0,ps,#[⟨1,.data⟩,⟨2,.data⟩],none⟩
def ops35_7_4 (ps : String) : Oper := ⟨some 24,.load 58 (.tmp 23),58,ps,#[⟨3,.data⟩],none⟩
def ops35_7_5 (ps : String) : Oper := ⟨some 25,.load 58 (.tmp 5),58,ps,#[],none⟩
def ops35_7_6 (ps : String) : Oper := ⟨some 26,.call ⟨.value (.tmp 20),#[.tmp 24,.tmp 25],#[58,58]⟩,3,ps,#[⟨0,.data⟩,⟨4,.data⟩,⟨5,.data⟩],none⟩
def ops35_7_7 (ps : String) : Oper := ⟨some 27,.binOp .lss 3 (.tmp 26) (.const (.int .i64 0)) 3,4,ps,#[⟨6,.data⟩],none⟩
def ops35_7 (ps : String) : Array Oper := #[ops35_7_0 ps,ops35_7_1 ps,ops35_7_2 ps,ops35_7_3 ps,ops35_7_4 ps,ops35_7_5 ps,ops35_7_6 ps,ops35_7_7 ps]

theorem mn_r7 (Q : Exit → Act → World → Prop) (hQ : ∀ c x (n : Nat) v w,Q (.panic c) (x.put (some n) v) w → Q (.panic c) x w) (id : Nat) (ps : String) {v2 v3 v4 v7 v8 v9 xa xb xc xd xe xf xg xh xi xj xk xl xm xn xo xp xq xr xt xu xv xw xx : Value} (M b o k n c : Nat) (x m : Wy) (w : World) (hS : MnS M b (o + k * 3) x m (World.drew w))
  (hk : (k : Int) < (n : Int))
  (hq : ∀ w',Below w.heap.size w w' → MnS M b (o + k * 3) x m w' → Q .normal (fr35 (.slice (some ⟨b,o,none⟩) n c) (.func (.func 36) #[] #[]) v2 v3 v4 (.pointer (some ⟨M,0,none⟩)) (.int .i64 (k : Nat)) v7 v8 v9 xa xb xc xd xe xf xg xh xi xj (.func (.func 36) #[] #[]) (.slice (some ⟨b,o,none⟩) n c) (.int .i64 (k : Nat)) (.pointer (some ⟨b,o + k * 3,none⟩)) (.agg (wyL x).toArray) (.agg (wyL m).toArray) (.int .i64 (cmpW x m)) (.bool (decide (cmpW x m < 0))) xt xu xv xw xx) w') :
  (Code.region id (ops35_7 ps) true).wp Tryz.prog Q (fr35 (.slice (some ⟨b,o,none⟩) n c) (.func (.func 36) #[] #[]) v2 v3 v4 (.pointer (some ⟨M,0,none⟩)) (.int .i64 (k : Nat)) v7 v8 v9 xa xb xc xd xe xf xg xh xi xj xk xl xm xn xo xp xq xr xt xu xv xw xx) w := by
 refine wp_region_held (S := MnS M b (o + k * 3) x m) (by kernel_rfl) ?_
 change wpAnyH _ _ _ _ _ 8 _ _ (World.drew w)
 refine take_r 0 ⟨some 20,.move (.tmp 1),104,ps,#[],none⟩ (.func (.func 36) #[] #[]) hQ (fun w _ => by kernel_rfl) hS ?_
 refine take_k 1 (ops35_7_1 ps) (.slice (some ⟨b,o,none⟩) n c) (fr35 (.slice (some ⟨b,o,none⟩) n c) (.func (.func 36) #[] #[]) v2 v3 v4 (.pointer (some ⟨M,0,none⟩)) (.int .i64 (k : Nat)) v7 v8 v9 xa xb xc xd xe xf xg xh xi xj (.func (.func 36) #[] #[]) (.slice (some ⟨b,o,none⟩) n c) xm xn xo xp xq xr xt xu xv xw xx) hQ (fun w _ => by kernel_rfl) hS ?_
 refine take_r 2 ⟨some 22,.move (.tmp 6),3,ps,#[],none⟩ (.int .i64 (k : Nat)) hQ (fun w _ => by kernel_rfl) hS ?_
 refine take_k 3 (ops35_7_3 ps) (.pointer (some ⟨b,o + k * 3,none⟩)) (fr35 (.slice (some ⟨b,o,none⟩) n c) (.func (.func 36) #[] #[]) v2 v3 v4 (.pointer (some ⟨M,0,none⟩)) (.int .i64 (k : Nat)) v7 v8 v9 xa xb xc xd xe xf xg xh xi xj (.func (.func 36) #[] #[]) (.slice (some ⟨b,o,none⟩) n c) (.int .i64 (k : Nat)) (.pointer (some ⟨b,o + k * 3,none⟩)) xo xp xq xr xt xu xv xw xx) hQ (fun w hS => by unfold fr35 ops35_7_3; go_simp) hS ?_
 refine take_r 4 ⟨some 24,.load 58 (.tmp 23),58,ps,#[⟨3,.data⟩],none⟩ (.agg (wyL x).toArray) hQ (fun w hS => exec_load_mid (x := (Operand.tmp 23)) 58 b (o + k * 3) (wyL x) _ (by kernel_rfl) (by kernel_rfl) (hS.x) Tryz.underlying58 rfl (info58l x)) hS ?_
 refine take_k 5 (ops35_7_5 ps) (.agg (wyL m).toArray) (fr35 (.slice (some ⟨b,o,none⟩) n c) (.func (.func 36) #[] #[]) v2 v3 v4 (.pointer (some ⟨M,0,none⟩)) (.int .i64 (k : Nat)) v7 v8 v9 xa xb xc xd xe xf xg xh xi xj (.func (.func 36) #[] #[]) (.slice (some ⟨b,o,none⟩) n c) (.int .i64 (k : Nat)) (.pointer (some ⟨b,o + k * 3,none⟩)) (.agg (wyL x).toArray) (.agg (wyL m).toArray) xq xr xt xu xv xw xx) hQ (fun w hS => exec_load_mid (x := (Operand.tmp 5)) 58 M (0) (wyL m) _ (by kernel_rfl) (by kernel_rfl) (range_row hS.m) Tryz.underlying58 rfl (info58l m)) hS ?_
 refine want_k 6 (ops35_7_6 ps) fun K hK => ?_
 unfold fr35 ops35_7_6
 go_simp
 refine (compare_any x m _).mono ?_
 rintro e w1 ⟨rfl,B1⟩
 have hS1 : MnS M b (o + k * 3) x m w1 := hS.below B1
 refine hK _ _ hS1 (cast_h (fr35 (.slice (some ⟨b,o,none⟩) n c) (.func (.func 36) #[] #[]) v2 v3 v4 (.pointer (some ⟨M,0,none⟩)) (.int .i64 (k : Nat)) v7 v8 v9 xa xb xc xd xe xf xg xh xi xj (.func (.func 36) #[] #[]) (.slice (some ⟨b,o,none⟩) n c) (.int .i64 (k : Nat)) (.pointer (some ⟨b,o + k * 3,none⟩)) (.agg (wyL x).toArray) (.agg (wyL m).toArray) (.int .i64 (cmpW x m)) xr xt xu xv xw xx) (by kernel_rfl) ?_)
 clear hK K
 refine take_r 7 ⟨some 27,.binOp .lss 3 (.tmp 26) (.const (.int .i64 0)) 3,4,ps,#[⟨6,.data⟩],none⟩ (.bool (decide (cmpW x m < 0))) hQ (fun w hS => by unfold fr35; go_simp) hS1 ?_
 exact wpAnyH_done (by kernel_rfl) (hq _ ((below_drew w).trans B1) hS1) _
structure MnI (z : World) (m : Wy) (W : World) : Prop where
 low : Below z.heap.size z W
 r0 : W.heap[z.heap.size]? = some (.cells (wyL wy0).toArray 58 (0,0))
 m : W.heap[z.heap.size + 1]? = some (.cells (wyL m).toArray 58 (0,0))
theorem MnI.next {z : World} {m : Wy} {W W' : World} (h : MnI z m W) (hb : Below W.heap.size W W') : MnI z m W' := ⟨h.low.trans (hb.mono h.low.size),(hb.block _ (Array.getElem?_eq_some_iff.1 h.r0).1).trans h.r0,(hb.block _ (Array.getElem?_eq_some_iff.1 h.m).1).trans h.m⟩
theorem MnI.set {z : World} {m : Wy} {W : World} (h : MnI z m W) (x : Wy) : MnI z x (W.setRow (z.heap.size + 1) (wyL x).toArray) := by
 have ht := Turns.setRow (X := fun k => k = z.heap.size + 1) W rfl (wyL x).toArray
 exact ⟨h.low.trans (ht.below h.low.size (fun k hk => by omega)),(ht.block _ (Array.getElem?_eq_some_iff.1 h.r0).1 (by omega)).trans h.r0,setRow_heap _ _ _ _ _ _ h.m⟩
theorem minFunc_any (v : Value) (L : List Wy) (hL : 0 < L.length ∧ L.length ≤ 9000) (w : World) (hS : WysAt w v L) : Calls Tryz.prog 35 #[v,.func (.func 36) #[] #[]] w fun e w' => e = .returned (wyV (minW L)) ∧ Below w.heap.size w w' := by
 obtain ⟨a,c,rfl,-⟩ := hS.ex
 have h1 : (1 : Int) ≤ L.length := by omega
 have h1' : ¬ (L.length : Int) < 1 := by omega
 have h9 : (L.length : Int) ≤ 9000 := by omega
 obtain ⟨b,o,rfl,hb,hc0⟩ := wys_at hS hL.1
 have hce : Hid (∀ i (hi : i < L.length) W,Below w.heap.size w W → W.cell? ⟨b,o + i * 3,none⟩ = some (.int .i64 L[i].d) ∧ W.cell? ⟨b,o + i * 3 + 1,none⟩ = some (.int .i64 L[i].n) ∧ W.cell? ⟨b,o + i * 3 + 2,none⟩ = some (.int .i64 L[i].f)) := fun i hi W hW => by
  obtain ⟨b',o',e,_,h⟩ := wys_at hS hi
  cases e
  exact h W hW
 obtain ⟨x0,x1,x2⟩ := hc0 w (Below.refl _ _)
 rw [Nat.zero_mul,Nat.add_zero] at x0 x1 x2
 have hg0 : L.getD 0 wy0 = L[0] := by rw [List.getD_eq_getElem?_getD,List.getElem?_eq_getElem hL.1]; rfl
 have hR : Hid (minG (L.drop 1) L[0] = minW L) := by show _ = _; unfold minW; rw [hg0]
 have hgo : Hid (∀ k (hk : k < L.length) m,minG (L.drop k) m = minG (L.drop (k + 1)) (if cmpW L[k] m < 0 then L[k] else m)) := fun k hk m => minG_go hk
 clear hS hc0 hg0
 generalize minW L = R at *
 generalize L[0] = y0 at *
 go_enter Tryz.func35,Tryz.ntmps35
 go_wp2_with fail
 have hI0 : Hid (MnI w y0 ((w.alloc (.cells #[.int .i64 0,.int .i64 0,.int .i64 0] 58)).alloc (.cells #[.int .i64 y0.d,.int .i64 y0.n,.int .i64 y0.f] 58))) := ⟨below2 w _ _,(Below.heap_alloc _ _ _ (by simp)).trans (World.alloc_heap_new w _),alloc2_heap w _ _⟩
 clear x0 x1 x2
 generalize (w.alloc (.cells #[.int .i64 0,.int .i64 0,.int .i64 0] 58)).alloc (.cells #[.int .i64 y0.d,.int .i64 y0.n,.int .i64 y0.f] 58) = wz at *
 go_loopw [6] (fun v6 wr => ∃ (k : Nat) (m : Wy),(1 ≤ k ∧ k ≤ L.length) ∧ v6 = .int .i64 k ∧ Hid (MnI w m wr) ∧ Hid (minG (L.drop k) m = R)) (fun v6 _ => L.length - (intOf v6).toNat)
 case atStart => exact ⟨1,y0,by omega,rfl,hI0,hR⟩
 case round =>
  obtain ⟨k,m,⟨hk1,hk⟩,rfl,hI,hr⟩ := hrel
  clear hI0 hR
  by_cases hlt : k < L.length
  ·have hlt' : (k : Int) < L.length := by omega
   have hc := hce.out k hlt
   have hS0 : Hid (MnS (w.heap.size + 1) b (o + k * 3) L[k] m (World.drew wr)) := ⟨fun j u hu => by
    obtain ⟨q0,q1,q2⟩ := hc wr hI.out.low
    have hj : j < 3 := (List.getElem?_eq_some_iff.1 hu).1
    have hj' : j = 0 ∨ j = 1 ∨ j = 2 := by omega
    rcases hj' with rfl | rfl | rfl <;> (simp [wyL] at hu; subst hu)
    ·exact q0
    ·exact q1
    ·exact q2,hI.out.m,Nat.lt_of_lt_of_le hb hI.out.low.size⟩
   have hg := hgo.out k hlt m
   rw [hr.out] at hg
   have hgh : Hid (minG (L.drop (k + 1)) (if cmpW L[k] m < 0 then L[k] else m) = R) := hg.symm
   clear hc hg hr hce hgo
   generalize L[k] = x at *
   go_wp2_with fail
   refine mn_r7 _ (fun _ _ _ _ _ h => h) _ _ (w.heap.size + 1) b o k L.length c x m wr hS0.out hlt' ?_
   intro w2 hb2 hS2
   have hI2 : Hid (MnI w m w2) := hI.out.next hb2
   have d0 := hS2.x 0 _ rfl
   have d1 := hS2.x 1 _ rfl
   have d2 := hS2.x 2 _ rfl
   rw [Nat.add_zero] at d0
   clear hb2 hS2 hS0 hI
   by_cases hcm : cmpW x m < 0
   ·rw [if_pos hcm] at hgh
    have hI3 : Hid (MnI w x (w2.setRow (w.heap.size + 1) (wyL x).toArray)) := hI2.out.set x
    rw [decide_eq_true hcm]
    clear hcm
    unfold fr35
    go_wp2_with (refine wpList_store_row rfl 58 _ _ rfl (w.heap.size + 1) (wyL x).toArray rfl rfl 58 _ hI2.out.m (info58 _) rfl (wyL_all _) ?_; generalize w2.setRow (w.heap.size + 1) (wyL x).toArray = w3 at *)
    exact ⟨⟨k + 1,x,by omega,by simp,hI3,hgh⟩,by simp [intOf]; omega⟩
   ·rw [if_neg hcm] at hgh
    rw [decide_eq_false hcm]
    clear hcm
    unfold fr35
    go_wp2_with fail
    exact ⟨⟨k + 1,m,by omega,by simp,hI2,hgh⟩,by simp [intOf]; omega⟩
  ·have hge : ¬ (k : Int) < L.length := by omega
   have hRm : Hid (R = m) := by
    have := hr.out
    rw [List.drop_of_length_le (by omega)] at this
    exact this.symm
   have z0 := hI.out.r0
   have zm := hI.out.m
   have hlow : Hid (Below w.heap.size w wr) := hI.out.low
   clear hr hce hgo hI
   go_wp2_with (first | (refine wpList_load_row rfl 58 _ rfl (w.heap.size + 1) rfl 58 _ (0,0) _ zm Tryz.underlying58 rfl (info58 _) ?_) | (refine wpList_store_row rfl 58 _ _ rfl w.heap.size (wyL m).toArray rfl rfl 58 _ z0 (info58 _) rfl (wyL_all _) ?_))
   exact bodyPost_ret (results_cell_row rfl _ _ w.heap.size 58 _ (0,0) _ rfl (setRow_heap _ _ _ _ _ _ z0) Tryz.underlying58 rfl (info58 _)) rfl ⟨by rw [hRm.out]; rfl,hlow.out.trans ((Turns.setRow (X := fun k => k = w.heap.size) _ rfl _).below hlow.out.size (fun k hk => by omega))⟩
end Go.Proofs.YtfndocmgonlhpaaGreatDoor
