/-
  What is proved here: the natural width of a run of masses, as Natural of metric tells it.
  What is proved here: the items of blanks, tabs and soft hyphens, as alone tells them; how wide a hyphen is.
  What is proved here: what Inner of para answers.
  What is proved here: what end, choose, asFits and best of para answer.
-/
import Derived.Test.YtlgcnbomfhmjiaaGreatDoorS9
import Derived.Test.YtlgcnbomfhmjiaaGreatDoorS3
import Derived.Test.YtlgcnbomfhmjiaaGreatDoorS11
import Derived.Laws.ResultCell
import Derived.Test.YtlgcnbomfhmjiaaGreatDoorS12
import Derived.Test.YtlgcnbomfhmjiaaGreatDoorS13
import Derived.Test.YtlgcnbomfhmjiaaGreatDoorS18
import Derived.Test.YtlgcnbomfhmjiaaGreatDoorS14
import Derived.ProofKit
import Derived.OpenShut
import Derived.ChangeOld
import Derived.Below
import Derived.Deep.Slices
import Derived.SizedLaws
import Derived.Maps.OwnSet
import Derived.DeepKeys4
namespace Go.Proofs.YtlgcnbomfhmjiaaGreatDoor
open Go.RowKit Go.Shelf
set_option maxRecDepth 100000
set_option maxHeartbeats 4000000

def mOk (m : Ms) : Bool := decide ((0 ≤ m.w ∧ m.w ≤ 4095) ∧ (-64 ≤ m.q ∧ m.q ≤ 0))
def ms0 : Ms := ⟨0,0,0,0,0,0⟩
def runN (l : List Ms) (f : Nat) : Nat → Int
 | 0 => 0
 | k + 1 => runN l f k + (l.getD (f + k) ms0).w + (if 0 < k then (l.getD (f + k) ms0).q else 0)
def natE (l : List Ms) (f t : Int) : Int := if 4096 < l.length then 3 else if l.all mOk = true then (if 0 ≤ f ∧ f ≤ t ∧ t ≤ l.length then 0 else 5) else 2
def natV (l : List Ms) (f t : Int) : Int := if natE l f t = 0 then runN l f.toNat (t.toNat - f.toNat) else 0
theorem getD_is {l : List Ms} {i : Nat} (h : i < l.length) : l.getD i ms0 = l[i] := by rw [List.getD_eq_getElem?_getD,List.getElem?_eq_getElem h]; rfl
theorem run_rng {l : List Ms} (h : l.all mOk = true) (f : Nat) : ∀ k,f + k ≤ l.length → -64 * (k : Int) ≤ runN l f k ∧ runN l f k ≤ 4095 * (k : Int)
 | 0,_ => by simp [runN]
 | k + 1, hk => by
  have ih := run_rng h f k (by omega)
  have hm := List.all_eq_true.1 h l[f + k] (List.getElem_mem (by omega))
  unfold mOk at hm
  rw [decide_eq_true_eq] at hm
  have e : runN l f (k + 1) = runN l f k + l[f + k].w + (if 0 < k then l[f + k].q else 0) := by
   show runN l f k + (l.getD (f + k) ms0).w + (if 0 < k then (l.getD (f + k) ms0).q else 0) = _
   rw [getD_is (show f + k < l.length by omega)]
  rw [e]
  split <;> omega
theorem all_no {l : List Ms} {k : Nat} (hk : k < l.length) (h : mOk l[k] = false) : l.all mOk = false := List.all_eq_false.2 ⟨l[k],List.getElem_mem hk,by simp [h]⟩
theorem all_yes {l : List Ms} (h : ∀ k (hk : k < l.length),mOk l[k] = true) : l.all mOk = true := List.all_eq_true.2 fun b hb => by
 obtain ⟨k,hk,rfl⟩ := List.getElem_of_mem hb
 exact h k hk
theorem all_at {l : List Ms} (h : l.all mOk = true) {k : Nat} (hk : k < l.length) : mOk l[k] = true := List.all_eq_true.1 h _ (List.getElem_mem hk)

def nat2 (m : Ms) : List Bd := [(m.w,0,4095),(m.q,-64,0)]
theorem nat2_keep (m : Ms) : keepB (nat2 m) = mOk m := by
 unfold keepB nat2 bdB mOk
 rw [Bool.eq_iff_iff]
 simp only [List.all_cons,List.all_nil,Bool.and_true,Bool.and_eq_true,decide_eq_true_eq]

theorem slice36 (a : Option Addr) (n cap f t : Nat) (W : World) (h1 : f ≤ t) (h2 : t ≤ cap) : ∃ a',(Instr.slice 101 (.slice a n cap) (some (.int .i64 (f : Int))) (some (.int .i64 (t : Int))) none).run Tryz.prog W = .ok (.slice a' (t - f) (cap - f)) W ∧ (∀ b o,a = some ⟨b,o,none⟩ → f < t → a' = some ⟨b,o + f * 6,none⟩) := by
 have he : Tryz.prog.elem 101 = 107 := by kernel_rfl
 have hu : Tryz.prog.underlying 101 = some (.slice (Tryz.prog.elem 101)) := by rw [he]; exact Tryz.underlying101
 have hr := run_slice_lh (P := Tryz.prog) (w := W) 101 a n cap hu .i64 .i64 f t (by omega) (by omega) (by omega)
 have hs : (sizeOf (Tryz.prog.elem 101)).run Tryz.prog W = .ok 6 W := by kernel_rfl
 rw [hs] at hr
 simp only [Result.andThen,sliced,Int.toNat_natCast] at hr
 refine ⟨_,hr,fun b o e hlt => ?_⟩
 rw [if_neg (by omega),e]
 simp [addr_add]

theorem natural_any (v : Value) (l : List Ms) (hl : l.length ≤ 9223372036854775807) (f t : Int) (w : World) (hS : RecAt 6 msL w v l) :
  Calls Tryz.prog 192 #[v,.int .i64 f,.int .i64 t] w fun e w' => e = .returned (.tuple #[.int .i64 (natV l f t),.int .i64 (natE l f t)]) ∧ Below w.heap.size w w' := by
 have hle := hS.le
 obtain ⟨a,cap,rfl,h2⟩ := hS.ex
 have hcap := hle _ _ _ rfl
 clear hS hle
 by_cases hlong : 4096 < l.length
 ·have e1 : natE l f t = 3 := if_pos hlong
  have e2 : natV l f t = 0 := by unfold natV; rw [e1]; rfl
  rw [e1,e2]
  clear e1 e2
  go_enter Tryz.func192,Tryz.ntmps192
  go_wp2_with fail
  go_ret2
  exact ⟨rfl,Below.refl _ _⟩
 ·have hr : Hid (∀ (W : World) (m : Nat) (r : Ms),W.heap.size = m → Calls Tryz.prog 174 #[.slice (some ⟨m,0,none⟩) 2 2] (W.alloc (.cells #[.int .i64 r.w,.int .i64 0,.int .i64 4095,.int .i64 r.q,.int .i64 (-64),.int .i64 0] 288)) fun e w' => e = .returned (.bool (mOk r)) ∧ Below W.heap.size W w') := fun W m r hm => by
   subst hm
   have h := keep_any _ (nat2 r) (by show 2 ≤ 100; omega) _ (rec_new (k := 3) bdL_len W 288 (nat2 r))
   rw [nat2_keep] at h
   refine h.mono ?_
   rintro e w' ⟨rfl,hb⟩
   exact ⟨rfl,((Below.refl _ W).alloc (Nat.le_refl _) _).trans (hb.mono (by simp))⟩
  have hno : Hid (l.all mOk = false → natE l f t = 2 ∧ natV l f t = 0) := fun h => by
   have e : natE l f t = 2 := by unfold natE; rw [if_neg hlong,h]; rfl
   refine ⟨e,?_⟩; unfold natV; rw [e]; rfl
  have hre : Hid (l.all mOk = true → ¬ (0 ≤ f ∧ f ≤ t ∧ t ≤ l.length) → natE l f t = 5 ∧ natV l f t = 0) := fun h h3 => by
   have e : natE l f t = 5 := by unfold natE; rw [if_neg hlong,h,if_pos rfl,if_neg h3]
   refine ⟨e,?_⟩; unfold natV; rw [e]; rfl
  have hyes : Hid (l.all mOk = true → (0 ≤ f ∧ f ≤ t ∧ t ≤ l.length) → natE l f t = 0 ∧ natV l f t = runN l f.toNat (t.toNat - f.toNat)) := fun h h3 => by
   have e : natE l f t = 0 := by unfold natE; rw [if_neg hlong,h,if_pos rfl,if_pos h3]
   refine ⟨e,?_⟩; unfold natV; rw [e]; rfl
  generalize natE l f t = E at *
  generalize natV l f t = V at *
  have hlong' : ¬ (4096 : Int) < l.length := by omega
  go_enter Tryz.func192,Tryz.ntmps192
  go_wp2_with fail
  go_loopw [18] (fun i wr => ∃ k : Nat,k ≤ l.length ∧ i = .int .i64 k ∧ Below w.heap.size w wr ∧ Hid (∀ j (hj : j < l.length),j < k → mOk l[j] = true)) (fun i _ => l.length - (intOf i).toNat)
  case atStart => exact ⟨0,by omega,rfl,Below.refl _ _,fun j _ hj => by omega⟩
  case round =>
   obtain ⟨k,hk,rfl,hb,hall⟩ := hrel
   by_cases hlt : k < l.length
   ·rcases h2 with h2 | ⟨b,o,rfl,hbl,hc⟩
    ·rw [h2] at hlt; simp at hlt
    ·have c0 : wr.cell? ⟨b,o + k * 6,none⟩ = some (.int .i64 l[k].f) := (hb.cell hbl).trans (hc k hlt 0 _ rfl)
     have c1 : wr.cell? ⟨b,o + k * 6 + 1,none⟩ = some (.int .i64 l[k].t) := (hb.cell hbl).trans (hc k hlt 1 _ rfl)
     have c2 : wr.cell? ⟨b,o + k * 6 + 2,none⟩ = some (.int .i64 l[k].k) := (hb.cell hbl).trans (hc k hlt 2 _ rfl)
     have c3 : wr.cell? ⟨b,o + k * 6 + 3,none⟩ = some (.int .i64 l[k].s) := (hb.cell hbl).trans (hc k hlt 3 _ rfl)
     have c4 : wr.cell? ⟨b,o + k * 6 + 4,none⟩ = some (.int .i64 l[k].w) := (hb.cell hbl).trans (hc k hlt 4 _ rfl)
     have c5 : wr.cell? ⟨b,o + k * 6 + 5,none⟩ = some (.int .i64 l[k].q) := (hb.cell hbl).trans (hc k hlt 5 _ rfl)
     have hlt' : (k : Int) < l.length := by omega
     have hw := hb.size
     have hr' : Hid (Calls Tryz.prog 174 #[.slice (some ⟨wr.heap.size + 1,0,none⟩) 2 2] ((wr.alloc (.cells #[.int .i64 l[k].f,.int .i64 l[k].t,.int .i64 l[k].k,.int .i64 l[k].s,.int .i64 l[k].w,.int .i64 l[k].q] 107)).alloc (.cells #[.int .i64 l[k].w,.int .i64 0,.int .i64 4095,.int .i64 l[k].q,.int .i64 (-64),.int .i64 0] 288)) fun e w' => e = .returned (.bool (mOk l[k])) ∧ Below w.heap.size w w') := by
      have := hr.out (wr.alloc (.cells #[.int .i64 l[k].f,.int .i64 l[k].t,.int .i64 l[k].k,.int .i64 l[k].s,.int .i64 l[k].w,.int .i64 l[k].q] 107)) (wr.heap.size + 1) l[k] (World.size_alloc _ _)
      refine this.mono ?_
      rintro e w' ⟨rfl,hB⟩
      exact ⟨rfl,(hb.alloc hb.size _).trans (hB.mono (by simp; omega))⟩
     clear hr hc
     cases hv : mOk l[k]
     ·rw [hv] at hr'
      obtain ⟨e1,e2⟩ := hno.out (all_no hlt hv)
      subst e1 e2
      clear hno hre hyes hall hv
      generalize l[k].f = x0 at *
      generalize l[k].t = x1 at *
      generalize l[k].k = x2 at *
      generalize l[k].s = x3 at *
      generalize l[k].w = x4 at *
      generalize l[k].q = x5 at *
      go_wp2_with (go_at_call 174; refine hr'.out.mono ?_; rintro e w' ⟨rfl,hB⟩)
      go_ret2
      exact ⟨rfl,hB⟩
     ·rw [hv] at hr'
      have hy : Hid (∀ j (hj : j < l.length),j < k + 1 → mOk l[j] = true) := fun j hj hjk => by
       by_cases h : j < k
       ·exact hall.out j hj h
       ·obtain rfl : j = k := by omega
        exact hv
      clear hno hre hyes hall hv
      generalize l[k].f = x0 at *
      generalize l[k].t = x1 at *
      generalize l[k].k = x2 at *
      generalize l[k].s = x3 at *
      generalize l[k].w = x4 at *
      generalize l[k].q = x5 at *
      go_wp2_with (go_at_call 174; refine hr'.out.mono ?_; rintro e w' ⟨rfl,hB⟩)
      go_roundw
      case rel => exact ⟨k + 1,by omega,by simp,hB,hy⟩
      case measure => simp [intOf]; omega
   ·obtain rfl : k = l.length := by omega
    have hall' : l.all mOk = true := all_yes (fun j hj => hall.out j hj hj)
    have hge : ¬ ((l.length : Int) < l.length) := by omega
    by_cases h3 : 0 ≤ f ∧ f ≤ t ∧ t ≤ l.length
    ·obtain ⟨e1,e2⟩ := hyes.out hall' h3
     obtain ⟨h30,h31,h32⟩ := h3
     obtain ⟨F,rfl⟩ : ∃ F : Nat,f = F := ⟨f.toNat,by omega⟩
     obtain ⟨T,rfl⟩ : ∃ T : Nat,t = T := ⟨t.toNat,by omega⟩
     obtain ⟨a',hsl,hsa⟩ := slice36 a l.length cap F T wr (by omega) (by omega)
     have hrun : Hid (V = runN l F (T - F)) := by rw [e2]; rfl
     have hAll : Hid (l.all mOk = true) := hall'
     subst e1
     clear e2 hyes hre hno hr hall hall'
     have hF0 : ¬ (F : Int) < 0 := by omega
     have hTF : ¬ (T : Int) < F := by omega
     have hTl : ¬ (l.length : Int) < T := by omega
     obtain ⟨n,hn⟩ : ∃ n,T - F = n := ⟨_,rfl⟩
     rw [hn] at hsl hrun
     have hn4 : n ≤ 4096 := by omega
     go_wp2_with fail
     go_loopw [10,50] (fun s i wr2 => ∃ j : Nat,j ≤ n ∧ i = .int .i64 j ∧ s = .int .i64 (runN l F j) ∧ Below w.heap.size w wr2) (fun _ i _ => n - (intOf i).toNat)
     case atStart => exact ⟨0,by omega,rfl,rfl,hb⟩
     case round =>
      obtain ⟨j,hj,rfl,rfl,hb2⟩ := hrel
      by_cases hjn : j < n
      ·rcases h2 with h2 | ⟨b,o,rfl,hbl,hc⟩
       ·rw [h2] at h32; simp at h32; omega
       ·have ha' := hsa b o rfl (by omega)
        subst ha'
        have hjl : F + j < l.length := by omega
        have e0 : o + (F + j) * 6 = o + F * 6 + j * 6 := by rw [Nat.add_mul]; omega
        have hcj : ∀ q u,(msL l[F + j])[q]? = some u → wr.cell? ⟨b,o + F * 6 + j * 6 + q,none⟩ = some u := fun q u hu => by
         have := (hb2.cell hbl).trans (hc (F + j) hjl q u hu)
         rwa [e0] at this
        have c0 : wr.cell? ⟨b,o + F * 6 + j * 6,none⟩ = some (.int .i64 l[F + j].f) := hcj 0 _ rfl
        have c1 : wr.cell? ⟨b,o + F * 6 + j * 6 + 1,none⟩ = some (.int .i64 l[F + j].t) := hcj 1 _ rfl
        have c2 : wr.cell? ⟨b,o + F * 6 + j * 6 + 2,none⟩ = some (.int .i64 l[F + j].k) := hcj 2 _ rfl
        have c3 : wr.cell? ⟨b,o + F * 6 + j * 6 + 3,none⟩ = some (.int .i64 l[F + j].s) := hcj 3 _ rfl
        have c4 : wr.cell? ⟨b,o + F * 6 + j * 6 + 4,none⟩ = some (.int .i64 l[F + j].w) := hcj 4 _ rfl
        have c5 : wr.cell? ⟨b,o + F * 6 + j * 6 + 5,none⟩ = some (.int .i64 l[F + j].q) := hcj 5 _ rfl
        have hr0 := run_rng hAll.out F j (by omega)
        have hm := all_at hAll.out hjl
        unfold mOk at hm
        rw [decide_eq_true_eq] at hm
        have hst : Hid (runN l F (j + 1) = runN l F j + l[F + j].w + (if 0 < j then l[F + j].q else 0)) := by
         show runN l F j + (l.getD (F + j) ms0).w + (if 0 < j then (l.getD (F + j) ms0).q else 0) = _
         rw [getD_is hjl]
        have hjn' : (j : Int) < n := by omega
        have hb2' : Hid (Below w.heap.size w wr) := hb2
        have hb3 : Hid (Below w.heap.size w (wr.alloc (.cells #[.int .i64 l[F + j].f,.int .i64 l[F + j].t,.int .i64 l[F + j].k,.int .i64 l[F + j].s,.int .i64 l[F + j].w,.int .i64 l[F + j].q] 107))) := hb2.alloc hb2.size _
        obtain ⟨off,hoff⟩ : ∃ off,o + F * 6 = off := ⟨_,rfl⟩
        rw [hoff] at c0 c1 c2 c3 c4 c5
        rw [hoff] at hsl
        rw [hoff]
        clear hcj hc e0 hoff hsa hb2 hsl
        generalize l[F + j].f = x0 at *
        generalize l[F + j].t = x1 at *
        generalize l[F + j].k = x2 at *
        generalize l[F + j].s = x3 at *
        generalize l[F + j].w = x4 at *
        generalize l[F + j].q = x5 at *
        generalize hR : runN l F j = R at *
        obtain ⟨⟨m0,m1⟩,m2,m3⟩ := hm
        obtain ⟨r0,r1⟩ := hr0
        by_cases hj0 : j = 0
        ·have hz : Hid (runN l F (j + 1) = R + x4) := hst.out.trans (by rw [if_neg (by omega),Int.add_zero])
         have hj0' : ¬ (0 : Int) < j := by omega
         have hj0'' : decide ((0 : Int) < j) = false := decide_eq_false hj0'
         clear hst hj0
         go_wp2_with fail
         go_roundw
         case rel => exact ⟨j + 1,by omega,by simp,by rw [hz.out],hb3⟩
         case measure => simp [intOf]; omega
        ·have hz : Hid (runN l F (j + 1) = R + x4 + x5) := hst.out.trans (by rw [if_pos (by omega)])
         have hj0' : (0 : Int) < j := by omega
         clear hst hj0
         go_wp2_with fail
         go_roundw
         case rel => exact ⟨j + 1,by omega,by simp,by rw [hz.out],hb3⟩
         case measure => simp [intOf]; omega
      ·obtain rfl : j = n := by omega
       have hv := hrun.out
       subst hv
       clear hrun h2 hsl hsa hn
       go_wp2_with fail
       go_ret2
       exact ⟨rfl,hb2⟩
    ·obtain ⟨e1,e2⟩ := hre.out hall' h3
     subst e1 e2
     clear hyes hre hno hr hall hall' h2
     have h3' : f < 0 ∨ (0 ≤ f ∧ t < f) ∨ (0 ≤ f ∧ f ≤ t ∧ (l.length : Int) < t) := by omega
     clear h3
     rcases h3' with h3 | ⟨h3,h4⟩ | ⟨h3,h4,h5⟩
     all_goals
      go_wp2_with fail
      go_ret2
      exact ⟨rfl,hb⟩

end Go.Proofs.YtlgcnbomfhmjiaaGreatDoor

namespace Go.Proofs.YtlgcnbomfhmjiaaGreatDoor
open Go.RowKit Go.Shelf
set_option maxRecDepth 100000

def itC (x : It) : Array Value := #[.int .i64 x.k,.int .i64 x.f,.int .i64 x.t,.int .i64 x.w,.int .i64 x.s,.int .i64 x.h,.int .i64 x.c,.bool x.y]
theorem itC_one (x : It) : (itC x).all (·.oneCell') = true := by simp [itC,Value.oneCell']
theorem info51 (x : It) : (Tryz.prog.info? 91).map (·.size) = some (itC x).size := by show _ = some 8; kernel_rfl
theorem heap_new (w : World) (o : Obj) : (w.alloc o).heap[w.heap.size]? = some o := by show (w.heap.push o)[w.heap.size]? = _; simp
theorem below_row {n b : Nat} {w W : World} (h : Below n w W) (hn : n ≤ W.heap.size) (hb : n ≤ b) (cs : Array Value) : Below n w (W.setRow b cs) :=
 h.trans ((Turns.setRow (X := fun k => k = b) W rfl cs).below hn (fun k hk => by omega))
theorem results_cell_row2 {P : Program} {fn : Func} {p u : Tmp} {ty : TypeId} (h : fn.results = #[.cell p ty,.tmp u]) (tmps : Array Value) (w : World) (g : Nat) (t : TypeId) (cs : Array Value) (fr : Nat × Nat) (d : TypeDesc)
  (hp : tmps.getD p undef = .pointer (some ⟨g,0,none⟩)) (hg : w.heap[g]? = some (.cells cs t fr))
  (hu : P.underlying ty = some d) (hd : (match d with | .struct _ | .array _ _ => true | _ => false) = true) (hi : (P.info? ty).map (·.size) = some cs.size) :
  (results fn tmps).run P w = .ok (.tuple #[.agg cs,tmps.getD u undef]) w := by
 have hp' : tmps[p]?.getD undef = .pointer (some ⟨g,0,none⟩) := by simpa using hp
 rw [results_cell_tmp h]
 simp [hp',asAddr,run_loadVar_row w g t ty cs fr d hg hu hd hi,Result.andThen]
structure IX (W : World) (b : Nat) (x : It) : Prop where
 row : W.heap[b]? = some (.cells (itC x) 91 (0,0))
theorem IX.new (w : World) (x : It) : IX (w.alloc (.cells (itC x) 91)) w.heap.size x := ⟨heap_new w _⟩
theorem IX.lt {W : World} {b : Nat} {x : It} (h : IX W b x) : b < W.heap.size := (Array.getElem?_eq_some_iff.1 h.row).1
theorem IX.below {n : Nat} {W W' : World} {b : Nat} {x : It} (h : IX W b x) (hb : Below n W W') (hn : b < n) : IX W' b x := ⟨(hb.block b hn).trans h.row⟩
theorem IX.set {W : World} {b : Nat} {x : It} (h : IX W b x) (y : It) : IX (W.setRow b (itC y)) b y := ⟨setRow_heap _ _ _ _ 91 _ h.row⟩

theorem wrap_ok {x : Int} (h : -9223372036854775808 ≤ x) (h' : x ≤ 9223372036854775807) : IntKind.i64.wrap x = x := by
 rw [IntKind.wrap_i64]; omega

def dash : ByteArray := ⟨#[45]⟩
def hyW (s : Int) : Int := wVal dash s
theorem hyphenWidth_any (s : Int) (w : World) : Calls Tryz.prog 193 #[.int .i64 s] w fun e w' => e = .returned (.int .i64 (hyW s)) ∧ w' = w := by
 have h : Calls Tryz.prog 121 #[.string ⟨#[45]⟩,.int .i64 s] w fun e w' => e = .returned (.tuple #[.int .i64 (hyW s),.int .i64 (wErr dash s)]) ∧ w' = w := Width_any dash s w
 generalize hyW s = r at *
 generalize wErr dash s = q at *
 go_enter Tryz.func193,Tryz.ntmps193
 go_wp2_with (go_at_call 121; refine h.mono ?_; rintro e w' ⟨rfl,hww⟩; subst w')
 go_ret
 exact ⟨rfl,rfl⟩

def alB (m : Ms) : Bool := decide (m.k = 3 ∨ m.k = 4 ∨ m.k = 5)
def loneI (m : Ms) : It := if m.k = 3 then ⟨2,m.f,m.t,m.w,m.w / 2,m.w / 3,0,false⟩ else if m.k = 4 then ⟨4,m.f,m.t,0,0,0,0,false⟩ else if m.k = 5 then ⟨3,m.f,m.t,hyW m.s,0,0,50,true⟩ else it0
def msC (m : Ms) : Array Value := #[.int .i64 m.f,.int .i64 m.t,.int .i64 m.k,.int .i64 m.s,.int .i64 m.w,.int .i64 m.q]

theorem two_new (w : World) (o : Obj) (x : It) : ((w.alloc o).alloc (.cells (itC x) 91)).heap[w.heap.size + 1]? = some (.cells (itC x) 91 (0,0)) := by
 have := heap_new (w.alloc o) (.cells (itC x) 91)
 rwa [World.size_alloc] at this
theorem two_below (w : World) (o p : Obj) : Below w.heap.size w ((w.alloc o).alloc p) := by
 have h := (Below.refl w.heap.size w).alloc (Nat.le_refl _) o
 exact h.alloc h.size p

end Go.Proofs.YtlgcnbomfhmjiaaGreatDoor

namespace Go.Proofs.YtlgcnbomfhmjiaaGreatDoor
open Go.RowKit Go.Shelf
set_option maxRecDepth 100000
set_option maxHeartbeats 4000000

def inN (a : Pa) (ss : List Sl) : Nat := max (max ss.length 1) a.p.p14.toNat
def inS (q : Tk) (ss : List Sl) (r : Sl) (n : Nat) : Sl := tkI q n (slN ss r n) 5
def inK (f : Nat → Sl) (N k : Nat) : List Sl := (List.range N).map fun i => if i < k then f i else sl0
def inL' (f : Nat → Sl) (N : Nat) : List Sl := (List.range N).map f
def inSs (a : Pa) (ss : List Sl) (r : Sl) : List Sl := inL' (inS (tkP a) ss r) (inN a ss)
def inR (a : Pa) (ss : List Sl) (r : Sl) : Sl := tkI (tkP a) (inN a ss : Nat) r 5
theorem inK_len (f : Nat → Sl) (N k : Nat) : (inK f N k).length = N := by simp [inK]
theorem inK_zero (f : Nat → Sl) (N : Nat) : inK f N 0 = List.replicate N sl0 := by
 apply List.ext_getElem
 ·simp [inK]
 ·intro i h1 h2; simp [inK]
theorem inK_all (f : Nat → Sl) (N : Nat) : inK f N N = inL' f N := by
 apply List.ext_getElem
 ·simp [inK,inL']
 ·intro i h1 h2
  have : i < N := by simpa [inK] using h1
  simp [inK,inL',this]
theorem inK_set {f : Nat → Sl} {N k : Nat} (_hk : k < N) : (inK f N k).set k (f k) = inK f N (k + 1) := by
 apply List.ext_getElem
 ·simp [inK]
 ·intro i h1 h2
  have hi : i < N := by simpa [inK] using h1
  rw [List.getElem_set]
  simp only [inK,List.getElem_map,List.getElem_range]
  split
  ·rename_i e; subst e; rw [if_pos (by omega)]
  ·split
   ·rw [if_pos (by omega)]
   ·rw [if_neg (by omega)]
theorem slL_len (s : Sl) : (slL s).length = 2 := rfl
theorem infoP30z : ∃ i z,Tryz.prog.info? 53 = some i ∧ i.zero = some z ∧ i.size = 2 ∧ i.bytes = 16 ∧ z = .agg (slL sl0).toArray := by
 have h : (Tryz.prog.info? 53).map (fun i => (i.zero,i.size,i.bytes)) = some (some (.agg (slL sl0).toArray),2,16) := by kernel_rfl
 cases hi : Tryz.prog.info? 53 with
 | none => rw [hi] at h; cases h
 | some i =>
  rw [hi] at h
  simp only [Option.map_some,Option.some.injEq,Prod.mk.injEq] at h
  obtain ⟨h1,h2,h3⟩ := h
  exact ⟨i,_,rfl,h1,h2,h3,rfl⟩
theorem make28 {n : Nat} (h : n ≤ 9100) (W : World) : (Instr.makeSlice 65 (.int .i64 (n : Int)) (.int .i64 (n : Int))).run Tryz.prog W = .ok (.slice (some ⟨W.heap.size,0,none⟩) n n) (W.alloc (.cells ((List.replicate n sl0).flatMap slL).toArray 53)) := by
 obtain ⟨i9,z,hi,hz0,hz1,hz2,rfl⟩ := infoP30z
 have := run_makeSlice (P := Tryz.prog) (w := W) 65 53 i9 _ Tryz.underlying65 hi hz0 .i64 .i64 n n (by omega) (by omega) (by rw [hz1]; omega) (by rw [hz2]; omega) (by omega)
 rw [hz1,Int.toNat_natCast] at this
 rw [← made_rec slL_len (by omega)]
 exact this
theorem made28 (W : World) (n : Nat) : RB 2 slL (W.alloc (.cells ((List.replicate n sl0).flatMap slL).toArray 53)) W.heap.size (List.replicate n sl0) :=
 RB.of_row (World.alloc_heap_new W _) fun i hi j v hv => by
  have hj : j < 2 := by have := (List.getElem?_eq_some_iff.1 hv).1; rw [slL_len] at this; exact this
  have := fm_get slL_len (List.replicate n sl0) hi j hj
  rw [hv] at this
  simpa using this
def rest13 : Code := (((Code.region 6 #[⟨some 30,.move (.tmp 11),65,"para.go:31",#[],none⟩,⟨some 31,.call ⟨.builtin .len,#[.tmp 30],#[65]⟩,3,"para.go:31",#[⟨0,.data⟩],none⟩,⟨some 32,.move (.const (.int .i64 0)),3,"para.go:31",#[],none⟩] false).seq (Code.block 0 ((Code.region 7 #[⟨some 33,.binOp .lss 3 (.tmp 32) (.tmp 31) 3,0,"para.go:31",#[],none⟩] false).seq ((Code.cond (Operand.tmp 33) Code.skip (Code.exit 0)).seq ((Code.block 1 ((Code.region 8 #[⟨some 34,.move (.tmp 32),3,"para.go:31",#[],none⟩,⟨some 12,.assign (.tmp 34),3,"para.go:31",#[⟨0,.data⟩,⟨0,.phase⟩],none⟩] false).seq (Code.region 9 #[⟨some 35,.move (.tmp 11),65,"para.go:32",#[],none⟩,⟨some 36,.move (.tmp 12),3,"para.go:32",#[],none⟩,⟨some 37,.move (.tmp 10),94,"para.go:32",#[],none⟩,⟨some 38,.move (.tmp 12),3,"para.go:32",#[],none⟩,⟨some 39,.move (.tmp 1),65,"para.go:32",#[],none⟩,⟨some 40,.load 53 (.tmp 5),53,"para.go:32",#[],none⟩,⟨some 41,.move (.tmp 12),3,"para.go:32",#[],none⟩,⟨some 42,.call ⟨.value (.func 37),#[.tmp 39,.tmp 40,.tmp 41],#[65,53,3]⟩,53,"para.go:32",#[⟨4,.data⟩,⟨5,.data⟩,⟨6,.data⟩],none⟩,⟨some 43,.call ⟨.value (.func 52),#[.tmp 37,.tmp 38,.tmp 42],#[94,3,53]⟩,53,"para.go:32",#[⟨2,.data⟩,⟨3,.data⟩,⟨7,.data⟩,⟨7,.chain⟩],none⟩,⟨some 44,.indexAddr 65 (.tmp 35) (.tmp 36),0,"para.go:32",#[⟨0,.data⟩,⟨1,.data⟩,⟨0,.phase⟩,⟨1,.phase⟩,⟨2,.phase⟩,⟨3,.phase⟩,⟨4,.phase⟩,⟨5,.phase⟩,⟨6,.phase⟩,⟨7,.phase⟩,⟨8,.phase⟩],none⟩,⟨none,.store 53 (.tmp 44) (.tmp 43),0,"para.go:32",#[⟨9,.data⟩,⟨8,.data⟩,⟨8,.chain⟩,⟨0,.phase⟩,⟨1,.phase⟩,⟨2,.phase⟩,⟨3,.phase⟩,⟨4,.phase⟩,⟨5,.phase⟩,⟨6,.phase⟩,⟨7,.phase⟩,⟨8,.phase⟩],none⟩] false))).seq (Code.region 10 #[⟨some 45,.binOp .add 3 (.tmp 32) (.const (.int .i64 1)) 3,3,"para.go:31",#[],none⟩,⟨some 32,.move (.tmp 45),3,"para.go:31",#[⟨0,.data⟩],none⟩] false)))).loop)).seq ((Code.region 11 #[⟨some 46,.move (.tmp 11),65,"para.go:34",#[],none⟩,⟨some 47,.move (.tmp 10),94,"para.go:34",#[],none⟩,⟨some 48,.move (.tmp 11),65,"para.go:34",#[],none⟩,⟨some 49,.call ⟨.builtin .len,#[.tmp 48],#[65]⟩,3,"para.go:34",#[⟨2,.data⟩],none⟩,⟨some 50,.load 53 (.tmp 5),53,"para.go:34",#[],none⟩,⟨some 51,.call ⟨.value (.func 52),#[.tmp 47,.tmp 49,.tmp 50],#[94,3,53]⟩,53,"para.go:34",#[⟨1,.data⟩,⟨3,.data⟩,⟨4,.data⟩],none⟩,⟨some 6,.assign (.tmp 46),65,"para.go:34",#[⟨0,.data⟩,⟨5,.chain⟩,⟨0,.phase⟩,⟨1,.textOnly .lateStores⟩,⟨2,.textOnly .lateStores⟩,⟨3,.textOnly .lateStoresUnsure⟩,⟨4,.textOnly .lateStores⟩,⟨5,.textOnly .lateStoresUnsure⟩],none⟩,⟨none,.store 53 (.tmp 7) (.tmp 51),0,"para.go:34",#[⟨5,.data⟩,⟨6,.chain⟩,⟨0,.phase⟩,⟨1,.phase⟩,⟨2,.phase⟩,⟨3,.phase⟩,⟨4,.phase⟩,⟨5,.phase⟩,⟨6,.phase⟩],none⟩,⟨some 8,.assign (.const (.int .i64 0)),24,"para.go:34",#[⟨7,.chain⟩,⟨0,.phase⟩,⟨1,.phase⟩,⟨2,.phase⟩,⟨3,.phase⟩,⟨4,.phase⟩,⟨5,.phase⟩,⟨6,.phase⟩,⟨7,.phase⟩],none⟩] false).seq Code.ret))
theorem in_rest (RR : Ending → World → Prop) (q : Tk) (hq : q.ok) (z w0 w : World) (X N : Nat) (r : Sl) (ss : List Sl) (vs tv : Value) (hck : ckS ss r = 0) (hN : N ≤ 9100) (hz : Below z.heap.size z w0) (hzx : z.heap.size ≤ X) (h5 : w0.heap[X]? = some (.cells (slL r).toArray 53 (0,0))) (h7 : w0.heap[X + 1]? = some (.cells #[.int .i64 0,.int .i64 0] 53 (0,0))) (hV : SlsAt w0 vs ss) (hT : TkAt w0 tv q)
  (hw : Below w0.heap.size w0 w) (hr : RB 2 slL w w0.heap.size (inK (inS q ss r) N 0)) {v0 v2 v3 v4 v6 v8 v9 xa xb xc xd xe xf xg xh xi xj xk xl xm xn xo xp xq xr xt xu xv xw xx xy xz xA xB xC xD xE xF xG xH xI xJ xK xL xM xN xO : Value}
  (hR : Hid (∀ W,Below z.heap.size z W → SlsAt W (.slice (some ⟨w0.heap.size,0,none⟩) N N) (inL' (inS q ss r) N) → RR (.returned (.tuple #[.slice (some ⟨w0.heap.size,0,none⟩) N N,.agg (slL (tkI q (N : Nat) r 5)).toArray,.int .i64 0])) W)) :
  rest13.wp Tryz.prog (bodyPost Tryz.prog Tryz.f34 RR) { tmps := #[v0,vs,v2,v3,v4,.pointer (some ⟨X,0,none⟩),v6,.pointer (some ⟨X + 1,0,none⟩),v8,v9,tv,.slice (some ⟨w0.heap.size,0,none⟩) N N,xa,xb,xc,xd,xe,xf,xg,xh,xi,xj,xk,xl,xm,xn,xo,xp,xq,xr,xt,xu,xv,xw,xx,xy,xz,xA,xB,xC,xD,xE,xF,xG,xH,xI,xJ,xK,xL,xM,xN,xO],defers := [] } w := by
 have hX1 := (Array.getElem?_eq_some_iff.1 h7).1
 have hI0 : Hid (Below w0.heap.size w0 w ∧ RB 2 slL w w0.heap.size (inK (inS q ss r) N 0)) := ⟨hw,hr⟩
 have hfew := ckS_few hck
 have hsl : Hid (∀ k W,Below w0.heap.size w0 W → Calls Tryz.prog 37 #[vs,.agg #[.int .i64 r.x,.int .i64 r.w],.int .i64 (k : Nat)] W fun e w' => e = .returned (.agg #[.int .i64 (slN ss r k).x,.int .i64 (slN ss r k).w]) ∧ Below W.heap.size W w') := fun k W hW => sls_slot (by omega) (hV.below hW (Nat.le_refl _))
 have hna : Hid (∀ (k : Nat) W,Below w0.heap.size w0 W → Calls Tryz.prog 52 #[tv,.int .i64 (k : Nat),.agg #[.int .i64 (slN ss r k).x,.int .i64 (slN ss r k).w]] W fun e w' => e = .returned (.agg (slL (inS q ss r k)).toArray) ∧ Below W.heap.size W w') := fun k W hW => narrow_any tv q hq k _ (slN_ok hck k) W (hT.below hW (Nat.le_refl _))
 have hok : okS r = true := by
  have := slN_ok hck ss.length
  rw [slN_out (Nat.le_refl _)] at this
  exact this
 have hnr : Hid (∀ W,Below w0.heap.size w0 W → Calls Tryz.prog 52 #[tv,.int .i64 (N : Nat),.agg #[.int .i64 r.x,.int .i64 r.w]] W fun e w' => e = .returned (.agg (slL (tkI q (N : Nat) r 5)).toArray) ∧ Below W.heap.size W w') := fun W hW => narrow_any tv q hq N _ hok W (hT.below hW (Nat.le_refl _))
 obtain ⟨av,cv,rfl,-⟩ := hV.ex
 obtain ⟨gt,c0,c1,c2,c3,c4,rfl,-⟩ := hT.ex
 have hrow : Hid (∀ W,Below w0.heap.size w0 W → W.heap[X]? = some (.cells #[.int .i64 r.x,.int .i64 r.w] 53 (0,0)) ∧ W.heap[X + 1]? = some (.cells #[.int .i64 0,.int .i64 0] 53 (0,0))) := fun W hW => ⟨(hW.block _ (by omega)).trans h5,(hW.block _ hX1).trans h7⟩
 have hzh : Hid (Below z.heap.size z w0) := hz
 have hXh : Hid (z.heap.size ≤ X ∧ X + 1 < w0.heap.size) := ⟨hzx,hX1⟩
 clear hV hT hok hck hq h5 h7 hw hr hz hzx hX1
 unfold rest13
 go_wp2_with fail
 go_loopw [32] (fun xv wr => ∃ k : Nat,k ≤ N ∧ xv = .int .i64 k ∧ Hid (Below w0.heap.size w0 wr ∧ RB 2 slL wr w0.heap.size (inK (inS q ss r) N k))) (fun xv _ => N - (intOf xv).toNat)
 case atStart => exact ⟨0,by omega,rfl,hI0⟩
 case round =>
  obtain ⟨k,hk,rfl,hI⟩ := hrel
  clear hI0
  obtain ⟨x5,x7⟩ := hrow.out wr hI.out.1
  by_cases hlt : k < N
  ·have hlt' : (k : Int) < (N : Int) := by omega
   have hs1 : Hid (Calls Tryz.prog 37 #[.slice av ss.length cv,.agg #[.int .i64 r.x,.int .i64 r.w],.int .i64 (k : Nat)] wr fun e w' => e = .returned (.agg #[.int .i64 (slN ss r k).x,.int .i64 (slN ss r k).w]) ∧ Below wr.heap.size wr w') := hsl.out k wr hI.out.1
   have hn1 : Hid (∀ W,Below w0.heap.size w0 W → Calls Tryz.prog 52 #[.slice (some ⟨gt,0,none⟩) 5 5,.int .i64 (k : Nat),.agg #[.int .i64 (slN ss r k).x,.int .i64 (slN ss r k).w]] W fun e w' => e = .returned (.agg (slL (inS q ss r k)).toArray) ∧ Below W.heap.size W w') := fun W hW => hna.out k W hW
   have hst : Hid (∀ W,RB 2 slL W w0.heap.size (inK (inS q ss r) N k) → RB 2 slL (W.setCells w0.heap.size (k * 2) (slL (inS q ss r k))) w0.heap.size (inK (inS q ss r) N (k + 1))) := fun W h => by
    have := h.set slL_len (p := k) (by rw [inK_len]; exact hlt) (inS q ss r k)
    rwa [inK_set hlt] at this
   have hth : Hid (∀ W,RB 2 slL W w0.heap.size (inK (inS q ss r) N k) → W.there w0.heap.size (k * 2) (slL (inS q ss r k)).toArray.size) := fun W h => h.there slL_len (by rw [inK_len]; exact hlt)
   clear hsl hna hnr hrow
   generalize (slN ss r k).x = sx at *
   generalize (slN ss r k).w = sw at *
   generalize inS q ss r k = y at *
   go_wp2_with (first | (refine wpList_load_row rfl 53 _ rfl X rfl 53 _ (0,0) _ x5 Tryz.underlying53 rfl (info25 _ _) ?_) | (go_at_call 37; refine hs1.out.mono ?_; rintro e w4 ⟨rfl,hb4⟩; have hI4 : Hid (Below w0.heap.size w0 w4 ∧ RB 2 slL w4 w0.heap.size (inK (inS q ss r) N k)) := ⟨hI.out.1.trans (hb4.mono hI.out.1.size),hI.out.2.below hb4 hI.out.2.lt⟩; clear hb4 hI hs1 x5 x7) | (go_at_call 52; refine (hn1.out w4 hI4.out.1).mono ?_; rintro e w5 ⟨rfl,hb5⟩; have hI5 : Hid (Below w0.heap.size w0 w5 ∧ RB 2 slL w5 w0.heap.size (inK (inS q ss r) N k)) := ⟨hI4.out.1.trans (hb5.mono hI4.out.1.size),hI4.out.2.below hb5 hI4.out.2.lt⟩; clear hb5 hI4 hn1) | (refine wpList_store_mid rfl 53 _ _ rfl w0.heap.size (k * 2) (slL y).toArray rfl rfl (hth.out w5 hI5.out.2) (info25t _) (slt_all _) ?_))
   refine ⟨⟨k + 1,by omega,rfl,?_,hst.out _ hI5.out.2⟩,by simp [intOf]; omega⟩
   exact hI5.out.1.trans ((turns_setCells (X := fun j => j = w0.heap.size) rfl _ _ _).below hI5.out.1.size (fun j hj => by omega))
  ·have hkn : k = N := by omega
   subst hkn
   have hge : ¬ (k : Int) < (k : Int) := by omega
   have hn1 : Hid (Calls Tryz.prog 52 #[.slice (some ⟨gt,0,none⟩) 5 5,.int .i64 (k : Nat),.agg #[.int .i64 r.x,.int .i64 r.w]] wr fun e w' => e = .returned (.agg (slL (tkI q (k : Nat) r 5)).toArray) ∧ Below wr.heap.size wr w') := hnr.out wr hI.out.1
   clear hsl hna hnr hrow
   go_wp2_with (first | (refine wpList_load_row rfl 53 _ rfl X rfl 53 _ (0,0) _ x5 Tryz.underlying53 rfl (info25 _ _) ?_) | (go_at_call 52; refine hn1.out.mono ?_; rintro e w5 ⟨rfl,hb5⟩; have y7 : w5.heap[X + 1]? = some (.cells #[.int .i64 0,.int .i64 0] 53 (0,0)) := (hb5.block _ (Array.getElem?_eq_some_iff.1 x7).1).trans x7; have hI5 : Hid (Below w0.heap.size w0 w5 ∧ RB 2 slL w5 w0.heap.size (inK (inS q ss r) k k)) := ⟨hI.out.1.trans (hb5.mono hI.out.1.size),hI.out.2.below hb5 hI.out.2.lt⟩; clear hb5 hI hn1 x7) | (refine wpList_store_row rfl 53 _ _ rfl (X + 1) (slL (tkI q (k : Nat) r 5)).toArray rfl rfl 53 _ y7 (info25t _) rfl (slt_all _) ?_))
   refine bodyPost_ret (results_tct rfl _ _ (X + 1) 53 (slL (tkI q (k : Nat) r 5)).toArray (0,0) _ rfl (setRow_heap _ _ _ _ _ _ y7) Tryz.underlying53 rfl (info25t _)) rfl ?_
   have hTn := Turns.setRow (X := fun j => j = X + 1) w5 rfl (slL (tkI q (k : Nat) r 5)).toArray
   obtain ⟨hx1,hx2⟩ := hXh.out
   obtain ⟨hI1,hI2⟩ := hI5.out
   refine hR.out _ ((hzh.out.trans (hI1.mono hzh.out.size)).trans (hTn.below (Nat.le_trans hzh.out.size hI1.size) (fun j hj => by omega))) ?_
   have h2 := (hI2.turns hTn (by omega)).recs (n := k) (cap := k) (by rw [inK_len]; exact Nat.le_refl _) (Nat.le_refl _)
   rw [inK_all,List.take_of_length_le (by simp [inL'])] at h2
   exact h2
end Go.Proofs.YtlgcnbomfhmjiaaGreatDoor

namespace Go.Proofs.YtlgcnbomfhmjiaaGreatDoor
open Go.RowKit Go.Shelf
set_option maxRecDepth 100000
set_option maxHeartbeats 2000000

def edI (a : Pa) (L : List It) (ps : List Pc) : Int := match ps with
 | [] => a.t.size
 | p :: _ => (itAt L p.a).f
theorem pcs_first {W : World} {a : Option Addr} {n cap : Nat} {p : Pc} {ps : List Pc} (h : PcsAt W (.slice a n cap) (p :: ps)) : n = ps.length + 1 ∧ ∃ b o,a = some ⟨b,o,none⟩ ∧ b < W.heap.size ∧ W.cell? ⟨b,o,none⟩ = some (.int .i64 (p.a : Nat)) := by
 obtain ⟨a',cap',h1,h2⟩ := h.ex
 cases h1
 refine ⟨by simp,?_⟩
 rcases h2 with h2 | ⟨b,o,rfl,hb,hc⟩
 ·cases h2
 ·refine ⟨b,o,rfl,hb,?_⟩
  have := hc 0 (by simp) 0 (.int .i64 (p.a : Nat)) rfl
  simpa using this
theorem end33 (a : Pa) (v vp : Value) (L : List It) (ps : List Pc) (hp : ∀ p ∈ ps.head?,p.a < L.length) (w : World) (hS : ItsAt w v L) (hV : PcsAt w vp ps) : Calls Tryz.prog 38 #[paV a,v,vp] w fun e w' => e = .returned (.int .i64 (edI a L ps)) ∧ Below w.heap.size w w' := by
 have hB := (Below.refl w.heap.size w).alloc (Nat.le_refl _) (Obj.cells (paC a) 36)
 have hP := PB.new w a
 have c0 := hP.c0
 have hBh : Hid (Below w.heap.size w (w.alloc (.cells (paC a) 36))) := hB
 cases ps with
 | nil =>
  obtain ⟨va,vc,rfl,-⟩ := hV.ex
  obtain ⟨sa,sc,rfl,-⟩ := hS.ex
  clear hV hS hB hP
  unfold paV
  show Calls Tryz.prog 38 #[.agg (paC a),.slice sa L.length sc,.slice va 0 vc] w _
  generalize hw1 : w.alloc (.cells (paC a) 36) = w1 at *
  go_enter Tryz.func38,Tryz.ntmps38
  go_wp2_with fail
  go_ret
  exact ⟨rfl,hBh.out⟩
 | cons p qs =>
  have hpl : p.a < L.length := hp p (by simp)
  obtain ⟨sa,sc,rfl,-⟩ := hS.ex
  obtain ⟨va,vc,rfl,-⟩ := hV.ex
  obtain ⟨-,b,o,rfl,hb,hc0⟩ := pcs_first hV
  obtain ⟨b2,o2,rfl,hb2,hrg⟩ := its_range hS hpl
  have hc1 : (w.alloc (.cells (paC a) 36)).cell? ⟨b,o,none⟩ = some (.int .i64 (p.a : Nat)) := (hB.cell hb).trans hc0
  have hc2 : (w.alloc (.cells (paC a) 36)).cell? ⟨b2,o2 + p.a * 8 + 1,none⟩ = some (.int .i64 (L[p.a]).f) := (hB.cell hb2).trans (hrg 1 _ rfl)
  have e : edI a L (p :: qs) = (L[p.a]).f := by show (itAt L p.a).f = _; rw [itAt_is hpl]
  have hpl' : (p.a : Int) < (L.length : Int) := by omega
  rw [e]
  have hne : (((p :: qs).length : Int) == 0) = false := by rw [beq_eq_false_iff_ne]; simp; omega
  have h0l : 0 < (p :: qs).length := by simp
  have h0l' : (0 : Int) < ((p :: qs).length : Nat) := by omega
  clear hV hS hB hP hrg hc0 e hp hb hb2
  generalize L[p.a].f = y at *
  generalize p.a = pa at *
  generalize (p :: qs).length = n at *
  unfold paV
  generalize hw1 : w.alloc (.cells (paC a) 36) = w1 at *
  go_enter Tryz.func38,Tryz.ntmps38
  go_wp2_with fail
  go_ret
  exact ⟨rfl,hBh.out⟩
def chN (a : Pa) (L : List It) : Nat := if a.p.p13 = 1 ∧ lpB L = false then 55 else 56
theorem choose31 (a : Pa) (v : Value) (L : List It) (hl : L.length ≤ 9223372036854775807) (w : World) (hS : ItsAt w v L) : Calls Tryz.prog 36 #[paV a,v] w fun e w' => e = .returned (.func (.func (chN a L)) #[] #[]) ∧ Below w.heap.size w w' := by
 have hB := (Below.refl w.heap.size w).alloc (Nat.le_refl _) (Obj.cells (paC a) 36)
 have hP := PB.new w a
 have c15 : (w.alloc (.cells (paC a) 36)).cell? ⟨w.heap.size,15,none⟩ = some (.int .i64 a.p.p13) := hP.cell (k := 15) rfl
 have hlp : Hid (Calls Tryz.prog 54 #[v] (w.alloc (.cells (paC a) 36)) fun e w' => e = .returned (.bool (lpB L)) ∧ Below (w.alloc (.cells (paC a) 36)).heap.size (w.alloc (.cells (paC a) 36)) w') := leaps_any v L hl _ (hS.below hB (Nat.le_refl _))
 have hBh : Hid (Below w.heap.size w (w.alloc (.cells (paC a) 36))) := hB
 clear hB hP hS
 unfold paV chN
 generalize hw1 : w.alloc (.cells (paC a) 36) = w1 at *
 generalize lpB L = lp at *
 by_cases h : a.p.p13 = 1
 ·rw [h] at c15
  cases lp
  ·rw [if_pos ⟨h,rfl⟩]
   go_enter Tryz.func36,Tryz.ntmps36
   go_wp2_with (go_at_call 54; refine hlp.out.mono ?_; rintro e w2 ⟨rfl,hb2⟩)
   go_ret
   exact ⟨rfl,hBh.out.trans (hb2.mono hBh.out.size)⟩
  ·rw [if_neg (by simp)]
   go_enter Tryz.func36,Tryz.ntmps36
   go_wp2_with (go_at_call 54; refine hlp.out.mono ?_; rintro e w2 ⟨rfl,hb2⟩)
   go_ret
   exact ⟨rfl,hBh.out.trans (hb2.mono hBh.out.size)⟩
 ·rw [if_neg (fun h' => h h'.1)]
  have h' : (a.p.p13 == 1) = false := by simpa using h
  clear h hlp
  go_enter Tryz.func36,Tryz.ntmps36
  go_wp2_with fail
  go_ret
  exact ⟨rfl,hBh.out⟩
def BkEnd (ps : List Pc) (b : Bool) (w : World) (e : Ending) (w' : World) : Prop := (∃ v,e = .returned (.tuple #[v,.bool b]) ∧ PcsAt w' v ps) ∧ Below w.heap.size w w'
theorem fits67 (v vs : Value) (l : List It) (ss : List Sl) (r : Sl) (hck : ckL l = 0) (hcs : ckS ss r = 0) (w : World) (hS : ItsAt w v l) (hV : SlsAt w vs ss) : Calls Tryz.prog 56 #[v,vs,.agg (slL r).toArray] w (BkEnd (lsL l ss r) false w) := by
 have hB := (Below.refl w.heap.size w).alloc (Nat.le_refl _) (Obj.cells (slL r).toArray 53)
 have hx : (w.alloc (.cells (slL r).toArray 53)).heap[w.heap.size]? = some (.cells (slL r).toArray 53 (0,0)) := World.alloc_heap_new w _
 have e0 : fbrE l ss r = 0 := by unfold fbrE; rw [if_neg (by rw [hck]; exact fun h => h rfl)]; exact hcs
 have hb : Hid (Calls Tryz.prog 89 #[v,vs,.agg (slL r).toArray] (w.alloc (.cells (slL r).toArray 53)) fun e w' => (∃ u,e = .returned (.tuple #[u,.int .i64 0]) ∧ PcsAt w' u (lsL l ss r)) ∧ Below (w.alloc (.cells (slL r).toArray 53)).heap.size (w.alloc (.cells (slL r).toArray 53)) w') := by
  refine (fbreak_any v vs l ss r (by have := ckS_few hcs; omega) _ (hS.below hB (Nat.le_refl _)) (hV.below hB (Nat.le_refl _))).mono ?_
  rintro e w' ⟨⟨u,rfl,hu⟩,h2⟩
  rw [e0] at hu ⊢
  rcases hu with ⟨h,_⟩ | ⟨_,h⟩
  ·exact absurd rfl h
  ·exact ⟨⟨u,rfl,h⟩,h2⟩
 have hBh : Hid (Below w.heap.size w (w.alloc (.cells (slL r).toArray 53))) := hB
 have hend : Hid (∀ W u,Below w.heap.size w W → PcsAt W u (lsL l ss r) → BkEnd (lsL l ss r) false w (.returned (.tuple #[u,.bool false])) W) := fun W u h1 h2 => ⟨⟨u,rfl,h2⟩,h1⟩
 obtain ⟨a1,c1,rfl,-⟩ := hS.ex
 obtain ⟨a2,c2,rfl,-⟩ := hV.ex
 clear hB hS hV e0 hck hcs
 generalize BkEnd (lsL l ss r) false w = E at *
 generalize hw1 : w.alloc (.cells (slL r).toArray 53) = w1 at *
 go_enter Tryz.func56,Tryz.ntmps56
 go_wp2_with (first | (refine wpList_load_row rfl 53 _ rfl w.heap.size rfl 53 _ (0,0) _ hx Tryz.underlying53 rfl (info25t _) ?_) | (go_at_call 89; refine hb.out.mono ?_; rintro e w2 ⟨⟨u,rfl,hu⟩,hb2⟩; have huh : Hid (PcsAt w2 u (lsL l ss r)) := hu; obtain ⟨a3,c3,rfl,-⟩ := hu.ex; clear hu))
 exact hend.out _ _ (hBh.out.trans (hb2.mono hBh.out.size)) huh.out
end Go.Proofs.YtlgcnbomfhmjiaaGreatDoor
