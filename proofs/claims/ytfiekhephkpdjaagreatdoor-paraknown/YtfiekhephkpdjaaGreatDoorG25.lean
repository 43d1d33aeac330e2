/-
  What is proved here: what Break of first answers of any items and any profile.
  What is proved here: lines between stops of items keep their bounds; breaks that may be (no program is named).
  What is proved here: what path of least answers.
  What is proved here: the drawn region of Demerits of least.
  What is proved here: what Demerits of least answers.
  What is proved here: what widths of least answers.
  What is proved here: which of two ways is better.
  What is proved here: the natural width of a run of masses, as Natural of metric tells it.
  What is proved here: how lists of masses and paragraphs that are handed in look.
-/
import Derived.Test.YtfiekhephkpdjaaGreatDoorG24
import Derived.Test.YtfiekhephkpdjaaGreatDoorG4
import Derived.Test.YtfiekhephkpdjaaGreatDoorG20
import Derived.Test.YtfiekhephkpdjaaGreatDoorG21
import Derived.Test.YtfiekhephkpdjaaGreatDoorG10
import Derived.ProofKit
import Derived.OpenShut
import Derived.ChangeOld
import Derived.Below
import Derived.Deep.Slices
import Derived.SizedLaws
namespace Go.Proofs.YtfiekhephkpdjaaGreatDoor
open Go.RowKit Go.Shelf
set_option maxRecDepth 100000
set_option maxHeartbeats 8000000

def fbrE (l : List It) (ss : List Sl) (r : Sl) : Int := if ckL l ≠ 0 then ckL l else ckS ss r
def fBrEnd (l : List It) (ss : List Sl) (r : Sl) (w : World) (e : Ending) (w' : World) : Prop :=
 (∃ v,e = .returned (.tuple #[v,.int .i64 (fbrE l ss r)]) ∧ ((fbrE l ss r ≠ 0 ∧ v = .slice none 0 0) ∨ (fbrE l ss r = 0 ∧ PcsAt w' v (lsL l ss r)))) ∧ Below w.heap.size w w'
theorem fbreak_any (v vs : Value) (l : List It) (ss : List Sl) (r : Sl) (hl : ss.length ≤ 9223372036854775807) (w : World) (hS : ItsAt w v l) (hV : SlsAt w vs ss) :
  Calls Tryz.prog 37 #[v,vs,.agg (slL r).toArray] w (fBrEnd l ss r w) := by
 obtain ⟨a,cap,rfl,-⟩ := hS.ex
 obtain ⟨a2,cap2,rfl,-⟩ := hV.ex
 have hB := below2 w (.cells #[.slice a2 ss.length cap2] 45) (.cells #[.int .i64 r.x,.int .i64 r.w] 32)
 have h4 : ((w.alloc (.cells #[.slice a2 ss.length cap2] 45)).alloc (.cells #[.int .i64 r.x,.int .i64 r.w] 32)).heap[w.heap.size]? = some (.cells #[.slice a2 ss.length cap2] 45) := (Below.heap_alloc _ _ _ (by simp)).trans (World.alloc_heap_new w _)
 have h5 := alloc2_heap w (.cells #[.slice a2 ss.length cap2] 45) (.cells #[.int .i64 r.x,.int .i64 r.w] 32)
 have hS1 := hS.below hB (Nat.le_refl _)
 have hV1 := hV.below hB (Nat.le_refl _)
 have hC : Hid (Calls Tryz.prog 69 #[.slice a l.length cap] ((w.alloc (.cells #[.slice a2 ss.length cap2] 45)).alloc (.cells #[.int .i64 r.x,.int .i64 r.w] 32)) fun e w' => e = .returned (.int .i64 (ckL l)) ∧ Below ((w.alloc (.cells #[.slice a2 ss.length cap2] 45)).alloc (.cells #[.int .i64 r.x,.int .i64 r.w] 32)).heap.size ((w.alloc (.cells #[.slice a2 ss.length cap2] 45)).alloc (.cells #[.int .i64 r.x,.int .i64 r.w] 32)) w') := icheck_any _ l _ hS1
 show Calls Tryz.prog 37 #[.slice a l.length cap,.slice a2 ss.length cap2,.agg #[.int .i64 r.x,.int .i64 r.w]] w _
 have hbr : Hid (fbrE l ss r = if ckL l ≠ 0 then ckL l else ckS ss r) := rfl
 have hEnd : Hid (∀ v W,(fbrE l ss r ≠ 0 ∧ v = .slice none 0 0) ∨ (fbrE l ss r = 0 ∧ PcsAt W v (lsL l ss r)) → Below w.heap.size w W → fBrEnd l ss r w (.returned (.tuple #[v,.int .i64 (fbrE l ss r)])) W) := fun v W h1 h2 => ⟨⟨v,rfl,h1⟩,h2⟩
 have hF : Hid (∀ W,Below ((w.alloc (.cells #[.slice a2 ss.length cap2] 45)).alloc (.cells #[.int .i64 r.x,.int .i64 r.w] 32)).heap.size ((w.alloc (.cells #[.slice a2 ss.length cap2] 45)).alloc (.cells #[.int .i64 r.x,.int .i64 r.w] 32)) W → Calls Tryz.prog 26 #[.slice a2 ss.length cap2,.agg #[.int .i64 r.x,.int .i64 r.w]] W fun e w' => e = .returned (.int .i64 (ckS ss r)) ∧ Below W.heap.size W w') := fun W hW => fcheck_any _ ss r hl W (hV1.below hW (Nat.le_refl _))
 have hE : Hid (ckL l = 0 → ckS ss r = 0 → ∀ W,Below ((w.alloc (.cells #[.slice a2 ss.length cap2] 45)).alloc (.cells #[.int .i64 r.x,.int .i64 r.w] 32)).heap.size ((w.alloc (.cells #[.slice a2 ss.length cap2] 45)).alloc (.cells #[.int .i64 r.x,.int .i64 r.w] 32)) W → Calls Tryz.prog 70 #[.slice a l.length cap,.func (.func 71) #[] #[.pointer (some ⟨w.heap.size,0,none⟩),.pointer (some ⟨w.heap.size + 1,0,none⟩)],.func (.func 72) #[.pointer (some ⟨W.heap.size,0,none⟩)] #[]] (W.alloc (.cells #[.slice none 0 0] 147)) fun e W' => (∃ v,e = .returned v) ∧ GW W (lsL l ss r) W') := fun h1 h2 W hW => by
  have k4 := (hW.block _ (by simp; omega)).trans h4
  have k5 := (hW.block _ (by simp)).trans h5
  exact eachLine_any W _ _ l ss r _ _ h1 h2 (hS1.below hW (Nat.le_refl _)) k4 k5 (hV1.below hW (Nat.le_refl _)) _ ⟨(Below.refl W.heap.size W).alloc (Nat.le_refl _) _,none,0,0,World.alloc_heap_new W _,World.ownsRow_nil _ _ _ _⟩
 have hx1 : ((w.alloc (.cells #[.slice a2 ss.length cap2] 45)).alloc (.cells #[.int .i64 r.x,.int .i64 r.w] 32)).cell? ⟨w.heap.size,0,none⟩ = some (.slice a2 ss.length cap2) := by rw [Lib.cell_of_heap h4]; rfl
 have hx2 : ((w.alloc (.cells #[.slice a2 ss.length cap2] 45)).alloc (.cells #[.int .i64 r.x,.int .i64 r.w] 32)).cell? ⟨w.heap.size + 1,0,none⟩ = some (.int .i64 r.x) := by rw [Lib.cell_of_heap h5]; rfl
 have hx3 : ((w.alloc (.cells #[.slice a2 ss.length cap2] 45)).alloc (.cells #[.int .i64 r.x,.int .i64 r.w] 32)).cell? ⟨w.heap.size + 1,1,none⟩ = some (.int .i64 r.w) := by rw [Lib.cell_of_heap h5]; rfl
 have hz : w.heap.size + 1 < ((w.alloc (.cells #[.slice a2 ss.length cap2] 45)).alloc (.cells #[.int .i64 r.x,.int .i64 r.w] 32)).heap.size := by simp
 have hBh : Hid (Below w.heap.size w ((w.alloc (.cells #[.slice a2 ss.length cap2] 45)).alloc (.cells #[.int .i64 r.x,.int .i64 r.w] 32))) := hB
 have hcl : Hid (∀ W,Below ((w.alloc (.cells #[.slice a2 ss.length cap2] 45)).alloc (.cells #[.int .i64 r.x,.int .i64 r.w] 32)).heap.size ((w.alloc (.cells #[.slice a2 ss.length cap2] 45)).alloc (.cells #[.int .i64 r.x,.int .i64 r.w] 32)) W → W.cell? ⟨w.heap.size,0,none⟩ = some (.slice a2 ss.length cap2) ∧ W.cell? ⟨w.heap.size + 1,0,none⟩ = some (.int .i64 r.x) ∧ W.cell? ⟨w.heap.size + 1,1,none⟩ = some (.int .i64 r.w)) := fun W hW => ⟨(hW.cell (Nat.lt_trans (Nat.lt_succ_self _) hz)).trans hx1,(hW.cell hz).trans hx2,(hW.cell hz).trans hx3⟩
 clear hS hV hS1 hV1 h4 h5 hB hx1 hx2 hx3 hz
 generalize lsL l ss r = R at *
 generalize fbrE l ss r = br at *
 generalize ckL l = c1 at *
 generalize ckS ss r = c2 at *
 by_cases h1 : c1 = 0
 ·have q1 : (c1 != 0) = false := by rw [h1]; rfl
  have hbr2 : br = c2 := by rw [hbr.out,if_neg (by simpa using h1)]
  subst hbr2
  by_cases h2 : br = 0
  ·have hE2 : Hid (∀ W,Below ((w.alloc (.cells #[.slice a2 ss.length cap2] 45)).alloc (.cells #[.int .i64 r.x,.int .i64 r.w] 32)).heap.size ((w.alloc (.cells #[.slice a2 ss.length cap2] 45)).alloc (.cells #[.int .i64 r.x,.int .i64 r.w] 32)) W → Calls Tryz.prog 70 #[.slice a l.length cap,.func (.func 71) #[] #[.pointer (some ⟨w.heap.size,0,none⟩),.pointer (some ⟨w.heap.size + 1,0,none⟩)],.func (.func 72) #[.pointer (some ⟨W.heap.size,0,none⟩)] #[]] (W.alloc (.cells #[.slice none 0 0] 147)) fun e W' => (∃ v,e = .returned v) ∧ GW W R W') := hE.out h1 h2
   have q2 : (br != 0) = false := by rw [h2]; rfl
   have hEnd2 : Hid (∀ v W,PcsAt W v R → Below w.heap.size w W → fBrEnd l ss r w (.returned (.tuple #[v,.int .i64 0])) W) := fun v W k1 k2 => by
    have := hEnd.out v W (.inr ⟨h2,k1⟩) k2
    rwa [h2] at this
   clear hE hbr hEnd h1 h2
   go_enter Tryz.func37,Tryz.ntmps37
   go_wp2_with fail
   generalize (w.alloc (.cells #[.slice a2 ss.length cap2] 45)).alloc (.cells #[.int .i64 r.x,.int .i64 r.w] 32) = wz at *
   go_wp2_with (first | (go_at_call 69; refine hC.out.mono ?_; rintro e w1 ⟨rfl,hb1⟩; obtain ⟨x1,x2,x3⟩ := hcl.out w1 hb1) | (go_at_call 26; refine (hF.out w1 hb1).mono ?_; rintro e w2 ⟨rfl,hb2⟩; have hb12 := hb1.trans (hb2.mono hb1.size)) | (go_at_call 70; refine (hE2.out w2 hb12).mono ?_; rintro e w3 ⟨⟨ve,rfl⟩,hG3⟩; obtain ⟨va,vn,vc,hbx,hrow⟩ := hG3.ex; have cg : w3.cell? ⟨w2.heap.size,0,none⟩ = some (.slice va vn vc) := (by rw [Lib.cell_of_heap hbx]; rfl)))
   go_ret2
   refine hEnd2.out _ _ (rec_of_row pcL_len rfl hrow) ?_
   have hb2z : Below w.heap.size w w2 := hBh.out.trans (hb12.mono hBh.out.size)
   exact hb2z.trans (hG3.low.mono hb2z.size)
  ·have q2 : (br != 0) = true := by simpa using h2
   have hEnd2 : Hid (∀ W,Below w.heap.size w W → fBrEnd l ss r w (.returned (.tuple #[.slice none 0 0,.int .i64 br])) W) := fun W k2 => hEnd.out _ W (.inl ⟨h2,rfl⟩) k2
   clear hE hbr hEnd h1 h2
   go_enter Tryz.func37,Tryz.ntmps37
   go_wp2_with fail
   generalize (w.alloc (.cells #[.slice a2 ss.length cap2] 45)).alloc (.cells #[.int .i64 r.x,.int .i64 r.w] 32) = wz at *
   go_wp2_with (first | (go_at_call 69; refine hC.out.mono ?_; rintro e w1 ⟨rfl,hb1⟩; obtain ⟨x1,x2,x3⟩ := hcl.out w1 hb1) | (go_at_call 26; refine (hF.out w1 hb1).mono ?_; rintro e w2 ⟨rfl,hb2⟩; have hb12 := hb1.trans (hb2.mono hb1.size)))
   go_ret2
   exact hEnd2.out _ (hBh.out.trans (hb12.mono hBh.out.size))
 ·have q1 : (c1 != 0) = true := by simpa using h1
  have hbr2 : br = c1 := by rw [hbr.out,if_pos h1]
  subst hbr2
  have hEnd2 : Hid (∀ W,Below w.heap.size w W → fBrEnd l ss r w (.returned (.tuple #[.slice none 0 0,.int .i64 br])) W) := fun W k2 => hEnd.out _ W (.inl ⟨h1,rfl⟩) k2
  clear hE hbr hEnd h1 hF
  go_enter Tryz.func37,Tryz.ntmps37
  go_wp2_with fail
  generalize (w.alloc (.cells #[.slice a2 ss.length cap2] 45)).alloc (.cells #[.int .i64 r.x,.int .i64 r.w] 32) = wz at *
  go_wp2_with (go_at_call 69; refine hC.out.mono ?_; rintro e w1 ⟨rfl,hb1⟩)
  go_ret2
  exact hEnd2.out _ (hBh.out.trans (hb1.mono hBh.out.size))
end Go.Proofs.YtfiekhephkpdjaaGreatDoor

namespace Go.Proofs.YtfiekhephkpdjaaGreatDoor
open Go.RowKit Go.Shelf

structure StF (l : List It) (x : St) : Prop where
 n : x.n ≤ l.length
 b : x.b = alF l x.n
 k : x.n < l.length → (itAt l x.n).k ≠ 2
 a : x.a ≤ l.length
 e : x.a = 0 ∨ (x.e.s = (baF l x.a).s ∧ x.e.h = (baF l x.a).h)
 w : 0 ≤ x.e.w ∧ x.e.w ≤ 4295491584
theorem skG_k {l : List It} {n i : Nat} (hi : i ≤ l.length) (hn : l.length ≤ i + n) : skG l n i < l.length → (itAt l (skG l n i)).k ≠ 2 := fun h => by
 obtain ⟨_,_,h4⟩ := skG_is n i hi hn
 rcases h4 with h4 | h4
 ·omega
 ·exact h4
theorem bg_f {l : List It} : StF l (bgS l) := ⟨sk_len,rfl,skG_k (Nat.zero_le _) (by omega),Nat.zero_le _,.inl rfl,by show (0 : Int) ≤ 0 ∧ (0 : Int) ≤ _; omega⟩
theorem st_f {l : List It} (h : ckL l = 0) {b : Nat} (hb : b ≤ l.length) : StF l (stS l b) := by
 have h8 := ck_len h
 have h1 := bg_le hb
 have h4 := ba_rng h hb
 have hk : bgN l b < l.length → (itAt l (bgN l b)).k ≠ 2 := by
  unfold bgN
  split
  ·exact skG_k (by omega) (by omega)
  ·exact skG_k hb (by omega)
 unfold stS
 split
 ·rename_i hp
  have hok := ok_at h b hp.1
  unfold okP at hok
  refine ⟨h1.2,rfl,hk,hb,.inr ⟨rfl,rfl⟩,?_⟩
  show 0 ≤ (baF l b).w + (itAt l b).w ∧ (baF l b).w + (itAt l b).w ≤ _
  omega
 ·exact ⟨h1.2,rfl,hk,hb,.inr ⟨rfl,rfl⟩,by show 0 ≤ (baF l b).w ∧ (baF l b).w ≤ _; omega⟩
theorem spG_f {l : List It} (h : ckL l = 0) : ∀ n b,b + n ≤ l.length + 1 → ∀ x ∈ spG l n b,StF l x
 | 0,_,_,x,hx => by cases hx
 | n + 1, b, hb, x, hx => by
  unfold spG at hx
  split at hx
  ·rcases List.mem_cons.1 hx with rfl | hx
   ·exact st_f h (by omega)
   ·exact spG_f h n (b + 1) (by omega) x hx
  ·exact spG_f h n (b + 1) (by omega) x hx
theorem spA_f {l : List It} (h : ckL l = 0) : ∀ x ∈ spA l,StF l x := fun x hx => by
 unfold spA at hx
 rcases List.mem_cons.1 hx with rfl | hx
 ·exact bg_f
 ·have := sk_len (l := l)
  exact spG_f h _ _ (by omega) x hx
theorem ttR_f {l : List It} : ∀ (L : List St) (z : Int),(∀ x ∈ L,StF l x) → ∀ x ∈ (ttR L z).1,StF l x
 | [],_,_,x,hx => by cases hx
 | y :: r, z, h, x, hx => by
  unfold ttR at hx
  rcases List.mem_cons.1 hx with rfl | hx
  ·have h2 := h y (List.mem_cons_self ..)
   exact ⟨h2.n,h2.b,h2.k,h2.a,h2.e,h2.w⟩
  ·exact ttR_f r z (fun q hq => h q (List.mem_cons_of_mem _ hq)) x hx
theorem stopsL_f {l : List It} (h : ckL l = 0) : ∀ x ∈ stopsL l,StF l x := ttR_f _ _ (spA_f h)
end Go.Proofs.YtfiekhephkpdjaaGreatDoor

namespace Go.Proofs.YtfiekhephkpdjaaGreatDoor
open Go.RowKit Go.Shelf

abbrev IntsAt (W : World) (v : Value) (d : List Int) : Prop := RecAt 1 (fun x : Int => [Value.int .i64 x]) W v d
end Go.Proofs.YtfiekhephkpdjaaGreatDoor

namespace Go.Proofs.YtfiekhephkpdjaaGreatDoor
open Go.RowKit Go.Shelf

theorem info29l (p : Sl) : (Tryz.prog.info? 32).map (·.size) = some (slL p).length := by show _ = some 2; kernel_rfl
end Go.Proofs.YtfiekhephkpdjaaGreatDoor

namespace Go.Proofs.YtfiekhephkpdjaaGreatDoor
open Go.RowKit Go.Shelf

theorem sls_slot {W : World} {v : Value} {ss : List Sl} {r : Sl} {k : Nat} (hl : ss.length ≤ 9223372036854775807) (hS : SlsAt W v ss) : Calls Tryz.prog 13 #[v,.agg (slL r).toArray,.int .i64 (k : Nat)] W fun e w' => e = .returned (.agg (slL (slN ss r k)).toArray) ∧ Below W.heap.size W w' := by
 have := fslot_any v ss r k hl W hS
 rw [slI_nat] at this
 exact this
end Go.Proofs.YtfiekhephkpdjaaGreatDoor

namespace Go.Proofs.YtfiekhephkpdjaaGreatDoor
open Go.RowKit Go.Shelf
set_option maxRecDepth 100000
set_option maxHeartbeats 4000000

def inL (x : Int) : List Value := [.int .i64 x]
theorem inL_len (x : Int) : (inL x).length = 1 := rfl
theorem inL_one (x : Int) : ∀ u ∈ inL x,u.oneCell' = true := by intro u hu; simp [inL] at hu; subst hu; rfl
theorem el41 : ElOk 118 3 1 8 := ElOk.of Tryz.underlying118 (by kernel_rfl)
def kN (f : Nat → Int) (x : Int) : Nat → Nat
 | 0 => 0
 | 1 => 1
 | m + 2 => if f m = x then kN f x (m + 1) else m + 2
def wdF (ss : List Sl) (r : Sl) (n : Nat) : Int := (slN ss r n).w
def wdL (ss : List Sl) (r : Sl) (m : Nat) : List Int := (List.range m).map (wdF ss r)
def wdsL (ss : List Sl) (r : Sl) : List Int := wdL ss r (kN (wdF ss r) r.w (ss.length + 1))
theorem wdL_len (ss : List Sl) (r : Sl) (m : Nat) : (wdL ss r m).length = m := by simp [wdL]
theorem wdL_at {ss : List Sl} {r : Sl} {m i : Nat} (hi : i < m) : (wdL ss r m)[i]'(by rw [wdL_len]; exact hi) = wdF ss r i := by simp [wdL]
theorem wdL_succ (ss : List Sl) (r : Sl) (m : Nat) : wdL ss r m ++ [wdF ss r m] = wdL ss r (m + 1) := by simp [wdL,List.range_succ]
theorem wdL_take {ss : List Sl} {r : Sl} {m k : Nat} (h : k ≤ m) : (wdL ss r m).take k = wdL ss r k := by
 unfold wdL
 rw [← List.map_take,List.take_range,Nat.min_eq_left h]
theorem kN_le (f : Nat → Int) (x : Int) : ∀ m,kN f x m ≤ m ∧ (0 < m → 0 < kN f x m)
 | 0 => ⟨Nat.le_refl _,fun h => h⟩
 | 1 => ⟨Nat.le_refl _,fun h => h⟩
 | m + 2 => by
  unfold kN
  have := kN_le f x (m + 1)
  split
  ·exact ⟨by omega,fun _ => this.2 (by omega)⟩
  ·exact ⟨Nat.le_refl _,fun h => h⟩
def WdEnd (ss : List Sl) (r : Sl) (w : World) (e : Ending) (w' : World) : Prop := (∃ v,e = .returned v ∧ IntsAt w' v (wdsL ss r)) ∧ Below w.heap.size w w'
structure WdI (z : World) (r : Sl) (v : Value) (qs : List Int) (W : World) : Prop where
 low : Below z.heap.size z W
 box : W.heap[z.heap.size]? = some (.cells #[.int .i64 r.x,.int .i64 r.w] 32 (0,0))
 row : W.ownsRow (z.heap.size + 1) 3 1 v qs.length (qs.flatMap inL)
theorem WdI.next {z : World} {r : Sl} {v : Value} {qs : List Int} {W W' : World} (h : WdI z r v qs W) (hb : Below W.heap.size W W') : WdI z r v qs W' :=
 ⟨h.low.trans (hb.mono h.low.size),(hb.block _ (Array.getElem?_eq_some_iff.1 h.box).1).trans h.box,ownsRow_below h.row hb⟩
theorem WdI.lt {z : World} {r : Sl} {v : Value} {qs : List Int} {W : World} (h : WdI z r v qs W) : z.heap.size + 1 ≤ W.heap.size := (Array.getElem?_eq_some_iff.1 h.box).1
theorem WdI.app {z : World} {r : Sl} {v v' : Value} {qs qs' : List Int} {W W' : World} (h : WdI z r v qs W) (hr : W'.ownsRow (z.heap.size + 1) 3 1 v' qs'.length (qs'.flatMap inL)) (hb : Below (z.heap.size + 1) W W') : WdI z r v' qs' W' :=
 ⟨h.low.trans (hb.mono (by omega)),(hb.block _ (by omega)).trans h.box,hr⟩
theorem widths_any (vs : Value) (ss : List Sl) (r : Sl) (h : ckS ss r = 0) (w : World) (hV : SlsAt w vs ss) : Calls Tryz.prog 65 #[vs,.agg (slL r).toArray] w (WdEnd ss r w) := by
 have h2 := ckS_few h
 have hb0 := (Below.refl w.heap.size w).alloc (Nat.le_refl _) (.cells #[.int .i64 r.x,.int .i64 r.w] 32)
 have hbox : (w.alloc (.cells #[.int .i64 r.x,.int .i64 r.w] 32)).heap[w.heap.size]? = some (.cells #[.int .i64 r.x,.int .i64 r.w] 32 (0,0)) := World.alloc_heap_new w _
 have hI0 : Hid (WdI w r (.slice none 0 0) [] (w.alloc (.cells #[.int .i64 r.x,.int .i64 r.w] 32))) := ⟨hb0,hbox,World.ownsRow_nil _ _ _ _⟩
 have hsl : Hid (∀ k W,Below w.heap.size w W → Calls Tryz.prog 13 #[vs,.agg #[.int .i64 r.x,.int .i64 r.w],.int .i64 (k : Nat)] W fun e w' => e = .returned (.agg #[.int .i64 (slN ss r k).x,.int .i64 (wdF ss r k)]) ∧ Below W.heap.size W w') := fun k W hW => sls_slot (by omega) (hV.below hW (Nat.le_refl _))
 obtain ⟨a2,k2,rfl,-⟩ := hV.ex
 have hl2 : (ss.length : Int) ≤ 256 := by omega
 have hend : Hid (∀ v W,IntsAt W v (wdsL ss r) → Below w.heap.size w W → WdEnd ss r w (.returned v) W) := fun v W h1 h2 => ⟨⟨v,rfl,h1⟩,h2⟩
 clear hV hb0 hbox h
 show Calls Tryz.prog 65 #[.slice a2 ss.length k2,.agg #[.int .i64 r.x,.int .i64 r.w]] w _
 go_enter Tryz.func65,Tryz.ntmps65
 go_wp2_with fail
 generalize w.alloc (.cells #[.int .i64 r.x,.int .i64 r.w] 32) = wz at *
 go_wp2_with fail
 go_loopw [5,10] (fun v5 v10 wr => ∃ (k : Nat) (va : Option Addr) (vc : Nat),k ≤ ss.length + 1 ∧ v10 = .int .i64 k ∧ v5 = .slice va k vc ∧ Hid (WdI w r (.slice va k vc) (wdL ss r k) wr)) (fun _ v10 _ => ss.length + 1 - (intOf v10).toNat)
 case atStart => exact ⟨0,none,0,by omega,rfl,rfl,hI0⟩
 case round =>
  obtain ⟨k,va,vc,hk,rfl,rfl,hI⟩ := hrel
  clear hI0
  have m0 : wr.cell? ⟨w.heap.size,0,none⟩ = some (.int .i64 r.x) := by rw [Lib.cell_of_heap hI.out.box]; rfl
  have m1 : wr.cell? ⟨w.heap.size,1,none⟩ = some (.int .i64 r.w) := by rw [Lib.cell_of_heap hI.out.box]; rfl
  by_cases hlt : k < ss.length + 1
  ·have hlt' : (k : Int) < (ss.length : Int) + 1 := by omega
   have hsl1 : Hid (Calls Tryz.prog 13 #[.slice a2 ss.length k2,.agg #[.int .i64 r.x,.int .i64 r.w],.int .i64 (k : Nat)] wr fun e w' => e = .returned (.agg #[.int .i64 (slN ss r k).x,.int .i64 (wdF ss r k)]) ∧ Below wr.heap.size wr w') := hsl.out k wr hI.out.low
   have hI1 : Hid (WdI w r (.slice va (wdL ss r k).length vc) (wdL ss r k) wr) := by rw [wdL_len]; exact hI.out
   have hnx : Hid (∀ W v,WdI w r v (wdL ss r k ++ [wdF ss r k]) W → WdI w r v (wdL ss r (k + 1)) W) := fun W v h => by rw [wdL_succ] at h; exact h
   have hvl : Hid (a2 = a2 → (wdL ss r k).length = k) := fun _ => wdL_len _ _ _
   clear hI hsl hend
   generalize (slN ss r k).x = sx at *
   generalize wdF ss r k = sw at *
   have hfd : ∀ W : World,(Instr.field 32 (.agg #[.int .i64 sx,.int .i64 sw]) 1).run Tryz.prog W = .ok (.int .i64 sw) W := fun W => by kernel_rfl
   go_wp2_with (first | (go_at_call 13; refine hsl1.out.mono ?_; rintro e w4 ⟨rfl,hb4⟩; have hI4 : Hid (WdI w r (.slice va (wdL ss r k).length vc) (wdL ss r k) w4) := hI1.out.next hb4; clear hb4 hI1 hsl1 m0 m1) | (refine wpList_app1 (k := 1) (f := inL) (w0 := w4) (bytes := 8) rfl el41 inL_len inL_one (by omega) (by omega) _ _ rfl (w.heap.size + 1) (.slice va (wdL ss r k).length vc) (wdL ss r k) sw (by rw [wdL_len]; rfl) hI4.out.row hI4.out.lt (by rw [wdL_len]; omega) rfl rfl ?_; intro v' w6 hr6 hb6; obtain ⟨g6,cap6,rfl,-,-,-⟩ := row_rb inL_len hr6 (by simp); have hI6 : Hid (WdI w r (.slice (some ⟨g6,0,none⟩) (wdL ss r k ++ [sw]).length cap6) (wdL ss r k ++ [sw]) w6) := hI4.out.app hr6 hb6; clear hr6 hb6 hI4))
   exact ⟨⟨k + 1,some ⟨g6,0,none⟩,cap6,by omega,by simp,by rw [wdL_len],hnx.out _ _ (by have := hI6.out; rw [show (wdL ss r k ++ [sw]).length = k + 1 by simp [wdL_len]] at this; exact this)⟩,by simp [intOf]; omega⟩
  ·have hge : ¬ (k : Int) < (ss.length : Int) + 1 := by omega
   have hkn : Hid (k = ss.length + 1) := by show _ = _; omega
   have hrow := hI.out.row
   obtain ⟨g,cap,hv,hg,hcap,hrb⟩ := row_rb inL_len hrow (by rw [wdL_len]; omega)
   obtain rfl : va = some ⟨g,0,none⟩ := by injection hv
   obtain rfl : vc = cap := by injection hv
   rw [wdL_len] at hcap
   have hrbh : Hid (RB 1 inL wr g (wdL ss r k)) := hrb
   have hlow : Hid (Below w.heap.size w wr) := hI.out.low
   have hbx : Hid (wr.heap[w.heap.size]? = some (.cells #[.int .i64 r.x,.int .i64 r.w] 32 (0,0))) := hI.out.box
   have hwl : Hid (w.heap.size < wr.heap.size) := by have := hI.out.lt; show _ < _; omega
   have hK0 : Hid (kN (wdF ss r) r.w k = kN (wdF ss r) r.w (ss.length + 1)) := by show _ = _; rw [hkn.out]
   have hfin : Hid (∀ m W,m ≤ k → m = kN (wdF ss r) r.w (ss.length + 1) → Below wr.heap.size wr W → WdEnd ss r w (.returned (.slice (some ⟨g,0,none⟩) m vc)) W) := fun m W hm e hW => by
    refine hend.out _ W ?_ (hlow.out.trans (hW.mono hlow.out.size))
    have h1 := (hrbh.out.below hW hrbh.out.lt).recs (n := m) (cap := vc) (by rw [wdL_len]; exact hm) (by omega)
    rw [wdL_take hm,e] at h1
    rw [e]
    exact h1
   clear hrb hrow hv hI hend hsl hg m0 m1
   obtain ⟨w3,rfl⟩ : ∃ w3,w3 = wr := ⟨_,rfl⟩
   go_wp2_with fail
   go_loopw [5] (fun v5 wq => ∃ m : Nat,(1 ≤ m ∧ m ≤ k) ∧ v5 = .slice (some ⟨g,0,none⟩) m vc ∧ Hid (Below w3.heap.size w3 wq) ∧ Hid (kN (wdF ss r) r.w m = kN (wdF ss r) r.w (ss.length + 1))) (fun v5 _ => match v5 with | .slice _ n _ => n | _ => 0)
   case atStart => exact ⟨k,by omega,rfl,Below.refl _ _,hK0⟩
   case round =>
    obtain ⟨m,⟨hm1,hmk⟩,rfl,hbq,hK⟩ := hrel
    clear hK0
    have hm8 : (m : Int) ≤ 257 := by have := hkn.out; omega
    have b1 : wr.cell? ⟨w.heap.size,1,none⟩ = some (.int .i64 r.w) := (hbq.out.cell hwl.out).trans (by rw [Lib.cell_of_heap hbx.out]; rfl)
    by_cases h2m : 2 ≤ m
    ·have h2' : (2 : Int) ≤ m := by omega
     have hcell : wr.cell? ⟨g,m - 2,none⟩ = some (.int .i64 (wdF ss r (m - 2))) := by
      have h3 := (hrbh.out.below hbq.out hrbh.out.lt).all (m - 2) (by rw [wdL_len]; omega) 0 (.int .i64 (wdF ss r (m - 2))) (by rw [wdL_at (by omega)]; rfl)
      rw [Nat.mul_one,Nat.add_zero] at h3
      exact h3.1
     have hkk : Hid (kN (wdF ss r) r.w m = if wdF ss r (m - 2) = r.w then kN (wdF ss r) r.w (m - 1) else m) := by
      obtain ⟨q,rfl⟩ : ∃ q,m = q + 2 := ⟨m - 2,by omega⟩
      rfl
     by_cases he : wdF ss r (m - 2) = r.w
     ·have hK2 : Hid (kN (wdF ss r) r.w (m - 1) = kN (wdF ss r) r.w (ss.length + 1)) := by
       have := hkk.out
       rw [if_pos he] at this
       show _ = _
       rw [← this]; exact hK.out
      rw [he] at hcell
      clear hkk he hK hfin hrbh hbx
      go_wp2_with fail
      have g1 : decide ((1 : Int) < (m : Int)) = true := decide_eq_true (by omega)
      have g2 : decide (1 < m) = true := decide_eq_true (by omega)
      go_quiet (fail)
      clear g1 g2
      go_wp2_with fail
      exact ⟨⟨m - 1,by omega,rfl,below_drewN hbq.out _,hK2⟩,by show m - 1 < m; omega⟩
     ·have hfin2 : Hid (∀ W,Below w3.heap.size w3 W → WdEnd ss r w (.returned (.slice (some ⟨g,0,none⟩) m vc)) W) := fun W hW => hfin.out m W hmk (by have := hkk.out; rw [if_neg he] at this; rw [← this]; exact hK.out) hW
      have hne : (wdF ss r (m - 2) == r.w) = false := by simpa using he
      clear hkk he hK hfin hrbh hbx
      go_wp2_with fail
      have g1 : decide ((1 : Int) < (m : Int)) = true := decide_eq_true (by omega)
      have g2 : decide (1 < m) = true := decide_eq_true (by omega)
      go_quiet (fail)
      clear g1 g2
      go_wp2_with fail
      go_ret
      exact hfin2.out _ (below_drewN hbq.out _)
    ·have hm1' : m = 1 := by omega
     have hfin2 : Hid (∀ W,Below w3.heap.size w3 W → WdEnd ss r w (.returned (.slice (some ⟨g,0,none⟩) m vc)) W) := fun W hW => hfin.out m W hmk (by have := hK.out; rw [hm1'] at this ⊢; exact this) hW
     have hlt1 : ¬ (1 : Int) < (m : Int) := by omega
     clear hK hfin hrbh hbx hm1'
     go_wp2_with fail
     have g1 : decide ((1 : Int) < (m : Int)) = false := decide_eq_false (by omega)
     have g2 : decide (1 < m) = false := decide_eq_false (by omega)
     go_quiet (fail)
     clear g1 g2
     go_wp2_with fail
     go_ret
     exact hfin2.out _ (below_drewN hbq.out _)
end Go.Proofs.YtfiekhephkpdjaaGreatDoor

namespace Go.Proofs.YtfiekhephkpdjaaGreatDoor
open Go.RowKit Go.Shelf

def cpI (x y : Int) : Int := if x < y then -1 else if y < x then 1 else 0
def orL : List Int → Int
 | [] => 0
 | x :: r => if x = 0 then orL r else x
structure Wy where
 d : Int
 n : Nat
 f : Nat
def wyL (x : Wy) : List Value := [.int .i64 x.d,.int .i64 x.n,.int .i64 x.f]
theorem wyL_one (x : Wy) : ∀ u ∈ wyL x,u.oneCell' = true := by
 intro u hu; simp [wyL] at hu; rcases hu with rfl | rfl | rfl <;> rfl
def wy0 : Wy := ⟨0,0,0⟩
theorem info58 (p : Wy) : (Tryz.prog.info? 141).map (·.size) = some (wyL p).toArray.size := by show _ = some 3; kernel_rfl
theorem wyL_all (p : Wy) : (wyL p).toArray.all (·.oneCell') = true := all_oneCell_toArray (wyL_one p)
def cmpW (x y : Wy) : Int := orL [cpI x.d y.d,cpI x.n y.n,cpI x.f y.f]
section
variable {Bx By : Nat} {x y : Wy} {W W' : World}
end
end Go.Proofs.YtfiekhephkpdjaaGreatDoor

namespace Go.Proofs.YtfiekhephkpdjaaGreatDoor
open Go.RowKit Go.Shelf
set_option maxRecDepth 100000
set_option maxHeartbeats 4000000

def mOk (m : Ms) : Bool := decide ((0 ≤ m.w ∧ m.w ≤ 4095) ∧ (-64 ≤ m.q ∧ m.q ≤ 0))
def ms0 : Ms := ⟨0,0,0,0,0,0⟩
def runN (l : List Ms) (f : Nat) : Nat → Int
 | 0 => 0
 | k + 1 => runN l f k + (l.getD (f + k) ms0).w + (if 0 < k then (l.getD (f + k) ms0).q else 0)
def natE (l : List Ms) (f t : Int) : Int := if 4096 < l.length then 3 else if l.all mOk = true then (if 0 ≤ f ∧ f ≤ t ∧ t ≤ l.length then 0 else 5) else 2
def natV (l : List Ms) (f t : Int) : Int := if natE l f t = 0 then runN l f.toNat (t.toNat - f.toNat) else 0
theorem getD_is {l : List Ms} {i : Nat} (h : i < l.length) : l.getD i ms0 = l[i] := by rw [List.getD_eq_getElem?_getD,List.getElem?_eq_getElem h]; rfl
theorem run_rng {l : List Ms} (h : l.all mOk = true) (f : Nat) : ∀ k,f + k ≤ l.length → -64 * (k : Int) ≤ runN l f k ∧ runN l f k ≤ 4095 * (k : Int)
 | 0,_ => by simp [runN]
 | k + 1, hk => by
  have ih := run_rng h f k (by omega)
  have hm := List.all_eq_true.1 h l[f + k] (List.getElem_mem (by omega))
  unfold mOk at hm
  rw [decide_eq_true_eq] at hm
  have e : runN l f (k + 1) = runN l f k + l[f + k].w + (if 0 < k then l[f + k].q else 0) := by
   show runN l f k + (l.getD (f + k) ms0).w + (if 0 < k then (l.getD (f + k) ms0).q else 0) = _
   rw [getD_is (show f + k < l.length by omega)]
  rw [e]
  split <;> omega
theorem all_no {l : List Ms} {k : Nat} (hk : k < l.length) (h : mOk l[k] = false) : l.all mOk = false := List.all_eq_false.2 ⟨l[k],List.getElem_mem hk,by simp [h]⟩
theorem all_yes {l : List Ms} (h : ∀ k (hk : k < l.length),mOk l[k] = true) : l.all mOk = true := List.all_eq_true.2 fun b hb => by
 obtain ⟨k,hk,rfl⟩ := List.getElem_of_mem hb
 exact h k hk
theorem all_at {l : List Ms} (h : l.all mOk = true) {k : Nat} (hk : k < l.length) : mOk l[k] = true := List.all_eq_true.1 h _ (List.getElem_mem hk)

def nat2 (m : Ms) : List Bd := [(m.w,0,4095),(m.q,-64,0)]
theorem nat2_keep (m : Ms) : keepB (nat2 m) = mOk m := by
 unfold keepB nat2 bdB mOk
 rw [Bool.eq_iff_iff]
 simp only [List.all_cons,List.all_nil,Bool.and_true,Bool.and_eq_true,decide_eq_true_eq]

theorem slice36 (a : Option Addr) (n cap f t : Nat) (W : World) (h1 : f ≤ t) (h2 : t ≤ cap) : ∃ a',(Instr.slice 81 (.slice a n cap) (some (.int .i64 (f : Int))) (some (.int .i64 (t : Int))) none).run Tryz.prog W = .ok (.slice a' (t - f) (cap - f)) W ∧ (∀ b o,a = some ⟨b,o,none⟩ → f < t → a' = some ⟨b,o + f * 6,none⟩) := by
 have he : Tryz.prog.elem 81 = 85 := by kernel_rfl
 have hu : Tryz.prog.underlying 81 = some (.slice (Tryz.prog.elem 81)) := by rw [he]; exact Tryz.underlying81
 have hr := run_slice_lh (P := Tryz.prog) (w := W) 81 a n cap hu .i64 .i64 f t (by omega) (by omega) (by omega)
 have hs : (sizeOf (Tryz.prog.elem 81)).run Tryz.prog W = .ok 6 W := by kernel_rfl
 rw [hs] at hr
 simp only [Result.andThen,sliced,Int.toNat_natCast] at hr
 refine ⟨_,hr,fun b o e hlt => ?_⟩
 rw [if_neg (by omega),e]
 simp [addr_add]

theorem natural_any (v : Value) (l : List Ms) (hl : l.length ≤ 9223372036854775807) (f t : Int) (w : World) (hS : RecAt 6 msL w v l) :
  Calls Tryz.prog 94 #[v,.int .i64 f,.int .i64 t] w fun e w' => e = .returned (.tuple #[.int .i64 (natV l f t),.int .i64 (natE l f t)]) ∧ Below w.heap.size w w' := by
 have hle := hS.le
 obtain ⟨a,cap,rfl,h2⟩ := hS.ex
 have hcap := hle _ _ _ rfl
 clear hS hle
 by_cases hlong : 4096 < l.length
 ·have e1 : natE l f t = 3 := if_pos hlong
  have e2 : natV l f t = 0 := by unfold natV; rw [e1]; rfl
  rw [e1,e2]
  clear e1 e2
  go_enter Tryz.func94,Tryz.ntmps94
  go_wp2_with fail
  go_ret2
  exact ⟨rfl,Below.refl _ _⟩
 ·have hr : Hid (∀ (W : World) (m : Nat) (r : Ms),W.heap.size = m → Calls Tryz.prog 76 #[.slice (some ⟨m,0,none⟩) 2 2] (W.alloc (.cells #[.int .i64 r.w,.int .i64 0,.int .i64 4095,.int .i64 r.q,.int .i64 (-64),.int .i64 0] 208)) fun e w' => e = .returned (.bool (mOk r)) ∧ Below W.heap.size W w') := fun W m r hm => by
   subst hm
   have h := keep_any _ (nat2 r) (by show 2 ≤ 100; omega) _ (rec_new (k := 3) bdL_len W 208 (nat2 r))
   rw [nat2_keep] at h
   refine h.mono ?_
   rintro e w' ⟨rfl,hb⟩
   exact ⟨rfl,((Below.refl _ W).alloc (Nat.le_refl _) _).trans (hb.mono (by simp))⟩
  have hno : Hid (l.all mOk = false → natE l f t = 2 ∧ natV l f t = 0) := fun h => by
   have e : natE l f t = 2 := by unfold natE; rw [if_neg hlong,h]; rfl
   refine ⟨e,?_⟩; unfold natV; rw [e]; rfl
  have hre : Hid (l.all mOk = true → ¬ (0 ≤ f ∧ f ≤ t ∧ t ≤ l.length) → natE l f t = 5 ∧ natV l f t = 0) := fun h h3 => by
   have e : natE l f t = 5 := by unfold natE; rw [if_neg hlong,h,if_pos rfl,if_neg h3]
   refine ⟨e,?_⟩; unfold natV; rw [e]; rfl
  have hyes : Hid (l.all mOk = true → (0 ≤ f ∧ f ≤ t ∧ t ≤ l.length) → natE l f t = 0 ∧ natV l f t = runN l f.toNat (t.toNat - f.toNat)) := fun h h3 => by
   have e : natE l f t = 0 := by unfold natE; rw [if_neg hlong,h,if_pos rfl,if_pos h3]
   refine ⟨e,?_⟩; unfold natV; rw [e]; rfl
  generalize natE l f t = E at *
  generalize natV l f t = V at *
  have hlong' : ¬ (4096 : Int) < l.length := by omega
  go_enter Tryz.func94,Tryz.ntmps94
  go_wp2_with fail
  go_loopw [18] (fun i wr => ∃ k : Nat,k ≤ l.length ∧ i = .int .i64 k ∧ Below w.heap.size w wr ∧ Hid (∀ j (hj : j < l.length),j < k → mOk l[j] = true)) (fun i _ => l.length - (intOf i).toNat)
  case atStart => exact ⟨0,by omega,rfl,Below.refl _ _,fun j _ hj => by omega⟩
  case round =>
   obtain ⟨k,hk,rfl,hb,hall⟩ := hrel
   by_cases hlt : k < l.length
   ·rcases h2 with h2 | ⟨b,o,rfl,hbl,hc⟩
    ·rw [h2] at hlt; simp at hlt
    ·have c0 : wr.cell? ⟨b,o + k * 6,none⟩ = some (.int .i64 l[k].f) := (hb.cell hbl).trans (hc k hlt 0 _ rfl)
     have c1 : wr.cell? ⟨b,o + k * 6 + 1,none⟩ = some (.int .i64 l[k].t) := (hb.cell hbl).trans (hc k hlt 1 _ rfl)
     have c2 : wr.cell? ⟨b,o + k * 6 + 2,none⟩ = some (.int .i64 l[k].k) := (hb.cell hbl).trans (hc k hlt 2 _ rfl)
     have c3 : wr.cell? ⟨b,o + k * 6 + 3,none⟩ = some (.int .i64 l[k].s) := (hb.cell hbl).trans (hc k hlt 3 _ rfl)
     have c4 : wr.cell? ⟨b,o + k * 6 + 4,none⟩ = some (.int .i64 l[k].w) := (hb.cell hbl).trans (hc k hlt 4 _ rfl)
     have c5 : wr.cell? ⟨b,o + k * 6 + 5,none⟩ = some (.int .i64 l[k].q) := (hb.cell hbl).trans (hc k hlt 5 _ rfl)
     have hlt' : (k : Int) < l.length := by omega
     have hw := hb.size
     have hr' : Hid (Calls Tryz.prog 76 #[.slice (some ⟨wr.heap.size + 1,0,none⟩) 2 2] ((wr.alloc (.cells #[.int .i64 l[k].f,.int .i64 l[k].t,.int .i64 l[k].k,.int .i64 l[k].s,.int .i64 l[k].w,.int .i64 l[k].q] 85)).alloc (.cells #[.int .i64 l[k].w,.int .i64 0,.int .i64 4095,.int .i64 l[k].q,.int .i64 (-64),.int .i64 0] 208)) fun e w' => e = .returned (.bool (mOk l[k])) ∧ Below w.heap.size w w') := by
      have := hr.out (wr.alloc (.cells #[.int .i64 l[k].f,.int .i64 l[k].t,.int .i64 l[k].k,.int .i64 l[k].s,.int .i64 l[k].w,.int .i64 l[k].q] 85)) (wr.heap.size + 1) l[k] (World.size_alloc _ _)
      refine this.mono ?_
      rintro e w' ⟨rfl,hB⟩
      exact ⟨rfl,(hb.alloc hb.size _).trans (hB.mono (by simp; omega))⟩
     clear hr hc
     cases hv : mOk l[k]
     ·rw [hv] at hr'
      obtain ⟨e1,e2⟩ := hno.out (all_no hlt hv)
      subst e1 e2
      clear hno hre hyes hall hv
      generalize l[k].f = x0 at *
      generalize l[k].t = x1 at *
      generalize l[k].k = x2 at *
      generalize l[k].s = x3 at *
      generalize l[k].w = x4 at *
      generalize l[k].q = x5 at *
      go_wp2_with (go_at_call 76; refine hr'.out.mono ?_; rintro e w' ⟨rfl,hB⟩)
      go_ret2
      exact ⟨rfl,hB⟩
     ·rw [hv] at hr'
      have hy : Hid (∀ j (hj : j < l.length),j < k + 1 → mOk l[j] = true) := fun j hj hjk => by
       by_cases h : j < k
       ·exact hall.out j hj h
       ·obtain rfl : j = k := by omega
        exact hv
      clear hno hre hyes hall hv
      generalize l[k].f = x0 at *
      generalize l[k].t = x1 at *
      generalize l[k].k = x2 at *
      generalize l[k].s = x3 at *
      generalize l[k].w = x4 at *
      generalize l[k].q = x5 at *
      go_wp2_with (go_at_call 76; refine hr'.out.mono ?_; rintro e w' ⟨rfl,hB⟩)
      go_roundw
      case rel => exact ⟨k + 1,by omega,by simp,hB,hy⟩
      case measure => simp [intOf]; omega
   ·obtain rfl : k = l.length := by omega
    have hall' : l.all mOk = true := all_yes (fun j hj => hall.out j hj hj)
    have hge : ¬ ((l.length : Int) < l.length) := by omega
    by_cases h3 : 0 ≤ f ∧ f ≤ t ∧ t ≤ l.length
    ·obtain ⟨e1,e2⟩ := hyes.out hall' h3
     obtain ⟨h30,h31,h32⟩ := h3
     obtain ⟨F,rfl⟩ : ∃ F : Nat,f = F := ⟨f.toNat,by omega⟩
     obtain ⟨T,rfl⟩ : ∃ T : Nat,t = T := ⟨t.toNat,by omega⟩
     obtain ⟨a',hsl,hsa⟩ := slice36 a l.length cap F T wr (by omega) (by omega)
     have hrun : Hid (V = runN l F (T - F)) := by rw [e2]; rfl
     have hAll : Hid (l.all mOk = true) := hall'
     subst e1
     clear e2 hyes hre hno hr hall hall'
     have hF0 : ¬ (F : Int) < 0 := by omega
     have hTF : ¬ (T : Int) < F := by omega
     have hTl : ¬ (l.length : Int) < T := by omega
     obtain ⟨n,hn⟩ : ∃ n,T - F = n := ⟨_,rfl⟩
     rw [hn] at hsl hrun
     have hn4 : n ≤ 4096 := by omega
     go_wp2_with fail
     go_loopw [10,50] (fun s i wr2 => ∃ j : Nat,j ≤ n ∧ i = .int .i64 j ∧ s = .int .i64 (runN l F j) ∧ Below w.heap.size w wr2) (fun _ i _ => n - (intOf i).toNat)
     case atStart => exact ⟨0,by omega,rfl,rfl,hb⟩
     case round =>
      obtain ⟨j,hj,rfl,rfl,hb2⟩ := hrel
      by_cases hjn : j < n
      ·rcases h2 with h2 | ⟨b,o,rfl,hbl,hc⟩
       ·rw [h2] at h32; simp at h32; omega
       ·have ha' := hsa b o rfl (by omega)
        subst ha'
        have hjl : F + j < l.length := by omega
        have e0 : o + (F + j) * 6 = o + F * 6 + j * 6 := by rw [Nat.add_mul]; omega
        have hcj : ∀ q u,(msL l[F + j])[q]? = some u → wr.cell? ⟨b,o + F * 6 + j * 6 + q,none⟩ = some u := fun q u hu => by
         have := (hb2.cell hbl).trans (hc (F + j) hjl q u hu)
         rwa [e0] at this
        have c0 : wr.cell? ⟨b,o + F * 6 + j * 6,none⟩ = some (.int .i64 l[F + j].f) := hcj 0 _ rfl
        have c1 : wr.cell? ⟨b,o + F * 6 + j * 6 + 1,none⟩ = some (.int .i64 l[F + j].t) := hcj 1 _ rfl
        have c2 : wr.cell? ⟨b,o + F * 6 + j * 6 + 2,none⟩ = some (.int .i64 l[F + j].k) := hcj 2 _ rfl
        have c3 : wr.cell? ⟨b,o + F * 6 + j * 6 + 3,none⟩ = some (.int .i64 l[F + j].s) := hcj 3 _ rfl
        have c4 : wr.cell? ⟨b,o + F * 6 + j * 6 + 4,none⟩ = some (.int .i64 l[F + j].w) := hcj 4 _ rfl
        have c5 : wr.cell? ⟨b,o + F * 6 + j * 6 + 5,none⟩ = some (.int .i64 l[F + j].q) := hcj 5 _ rfl
        have hr0 := run_rng hAll.out F j (by omega)
        have hm := all_at hAll.out hjl
        unfold mOk at hm
        rw [decide_eq_true_eq] at hm
        have hst : Hid (runN l F (j + 1) = runN l F j + l[F + j].w + (if 0 < j then l[F + j].q else 0)) := by
         show runN l F j + (l.getD (F + j) ms0).w + (if 0 < j then (l.getD (F + j) ms0).q else 0) = _
         rw [getD_is hjl]
        have hjn' : (j : Int) < n := by omega
        have hb2' : Hid (Below w.heap.size w wr) := hb2
        have hb3 : Hid (Below w.heap.size w (wr.alloc (.cells #[.int .i64 l[F + j].f,.int .i64 l[F + j].t,.int .i64 l[F + j].k,.int .i64 l[F + j].s,.int .i64 l[F + j].w,.int .i64 l[F + j].q] 85))) := hb2.alloc hb2.size _
        obtain ⟨off,hoff⟩ : ∃ off,o + F * 6 = off := ⟨_,rfl⟩
        rw [hoff] at c0 c1 c2 c3 c4 c5
        rw [hoff] at hsl
        rw [hoff]
        clear hcj hc e0 hoff hsa hb2 hsl
        generalize l[F + j].f = x0 at *
        generalize l[F + j].t = x1 at *
        generalize l[F + j].k = x2 at *
        generalize l[F + j].s = x3 at *
        generalize l[F + j].w = x4 at *
        generalize l[F + j].q = x5 at *
        generalize hR : runN l F j = R at *
        obtain ⟨⟨m0,m1⟩,m2,m3⟩ := hm
        obtain ⟨r0,r1⟩ := hr0
        by_cases hj0 : j = 0
        ·have hz : Hid (runN l F (j + 1) = R + x4) := hst.out.trans (by rw [if_neg (by omega),Int.add_zero])
         have hj0' : ¬ (0 : Int) < j := by omega
         have hj0'' : decide ((0 : Int) < j) = false := decide_eq_false hj0'
         clear hst hj0
         go_wp2_with fail
         go_roundw
         case rel => exact ⟨j + 1,by omega,by simp,by rw [hz.out],hb3⟩
         case measure => simp [intOf]; omega
        ·have hz : Hid (runN l F (j + 1) = R + x4 + x5) := hst.out.trans (by rw [if_pos (by omega)])
         have hj0' : (0 : Int) < j := by omega
         clear hst hj0
         go_wp2_with fail
         go_roundw
         case rel => exact ⟨j + 1,by omega,by simp,by rw [hz.out],hb3⟩
         case measure => simp [intOf]; omega
      ·obtain rfl : j = n := by omega
       have hv := hrun.out
       subst hv
       clear hrun h2 hsl hsa hn
       go_wp2_with fail
       go_ret2
       exact ⟨rfl,hb2⟩
    ·obtain ⟨e1,e2⟩ := hre.out hall' h3
     subst e1 e2
     clear hyes hre hno hr hall hall' h2
     have h3' : f < 0 ∨ (0 ≤ f ∧ t < f) ∨ (0 ≤ f ∧ f ≤ t ∧ (l.length : Int) < t) := by omega
     clear h3
     rcases h3' with h3 | ⟨h3,h4⟩ | ⟨h3,h4,h5⟩
     all_goals
      go_wp2_with fail
      go_ret2
      exact ⟨rfl,hb⟩

end Go.Proofs.YtfiekhephkpdjaaGreatDoor

namespace Go.Proofs.YtfiekhephkpdjaaGreatDoor
open Go.ChangeShapes Go.WideShapes Go.ChangeAt Go.RowKit

theorem own : ownKnob Tryz.prog.godebug = none := by kernel_rfl
theorem laidOut : laidOutB Tryz.prog = true := by kernel_rfl

end Go.Proofs.YtfiekhephkpdjaaGreatDoor
