/-
  What is proved here: where rows may be split, which lines stand between two heights.
  What is proved here: a room that is shared out among columns that grow.
  What is proved here: rows of numbers that grow; the columns' least and greatest widths, for every table.
  What is proved here: what Widths answers, for every table and width.
  What is proved here: what SameInts, example, wide and awake answer.
  What is proved here: widths fit, and keep their bounds: the mathematics.
-/
import Derived.Test.YtaphggjakaghjaaGreatDoorG14
import Derived.Test.YtaphggjakaghjaaGreatDoorG19
import Derived.Test.YtaphggjakaghjaaGreatDoorG27
import Derived.OwnWalk
import Derived.Deep.QuietTactic
namespace Go.Proofs.YtaphggjakaghjaaGreatDoor
open Go.RowKit Go.Shelf
set_option maxRecDepth 100000
set_option maxHeartbeats 4000000

section
variable {α : Type} {k : Nat} {f : α → List Value}
theorem RecAt.range {W : World} {a : Option Addr} {n cap : Nat} {l : List α} (h : RecAt k f W (.slice a n cap) l) {i : Nat} (hi : i < l.length) : ∃ b o,a = some ⟨b,o,none⟩ ∧ b < W.heap.size ∧ W.rangeAt b (o + i * k) (f l[i]) := by
 obtain ⟨a',cap',h1,h2⟩ := h.ex
 cases h1
 rcases h2 with h2 | ⟨b,o,rfl,hb,hc⟩
 ·subst h2; simp at hi
 ·exact ⟨b,o,rfl,hb,fun j v hv => hc i hi j v hv⟩
structure Fill (k : Nat) (f : α → List Value) (e : TypeId) (w0 : World) (v : Value) (qs : List α) (W : World) : Prop where
 low : Below w0.heap.size w0 W
 row : W.ownsRow w0.heap.size e k v qs.length (qs.flatMap f)
theorem Fill.start (e : TypeId) (w : World) : Fill k f e w (.slice none 0 0) [] w := ⟨Below.refl _ _,World.ownsRow_nil _ _ _ _⟩
theorem Fill.next {e : TypeId} {w0 : World} {v : Value} {qs : List α} {W W' : World} (h : Fill k f e w0 v qs W) (hb : Below W.heap.size W W') : Fill k f e w0 v qs W' :=
 ⟨h.low.trans (hb.mono h.low.size),ownsRow_below h.row hb⟩
theorem Fill.box {e : TypeId} {w0 : World} {v : Value} {qs : List α} {W : World} {t : TypeId} {c0 cs : Array Value} (h : Fill k f e w0 v qs W) : Fill k f e w0 v qs ((W.alloc (.cells c0 t)).setRow W.heap.size cs) := by
 have h1 := h.next ((Below.refl _ _).alloc (Nat.le_refl _) (.cells c0 t))
 have hT := Turns.setRow (X := fun k => k = W.heap.size) (W.alloc (.cells c0 t)) rfl cs
 exact ⟨h1.low.trans (hT.below h1.low.size (fun k hk => by have := h.low.size; omega)),ownsRow_turns h1.row hT (fun g hg e => by have := (h.row.lt g hg).2; omega)⟩
theorem Fill.app {e : TypeId} {w0 : World} {v v' : Value} {qs qs' : List α} {W W' : World} (h : Fill k f e w0 v qs W) (hr : W'.ownsRow w0.heap.size e k v' qs'.length (qs'.flatMap f)) (hb : Below w0.heap.size W W') : Fill k f e w0 v' qs' W' :=
 ⟨h.low.trans hb,hr⟩
end

theorem upper_any (x : Int) (hx : 0 ≤ x ∧ x ≤ 1000000) (w : World) : Calls Tryz.prog 53 #[.int .i64 x] w fun e w' => e = .returned (.int .i64 (2 + 10 * x)) ∧ w' = w := by
 have e1 : IntKind.i64.wrap (x * 10) = x * 10 := by rw [IntKind.wrap_i64]; omega
 have e2 : IntKind.i64.wrap (2 + x * 10) = 2 + 10 * x := by rw [IntKind.wrap_i64]; omega
 go_enter Tryz.func53,Tryz.ntmps53
 go_wp2_with fail
 go_ret
 exact ⟨rfl,rfl⟩
def spI (n : Nat) : List Int := (List.range n).map fun (i : Nat) => 2 + 10 * ((i : Int) + 1)
theorem spI_succ (n : Nat) : spI (n + 1) = spI n ++ [2 + 10 * ((n : Int) + 1)] := by simp [spI,List.range_succ]
theorem spI_len (n : Nat) : (spI n).length = n := by simp [spI]
theorem el3 : ElOk 36 3 1 8 := ElOk.of Tryz.underlying36 (by kernel_rfl)
theorem inL_len (x : Int) : (inL x).length = 1 := rfl
theorem inL_one (x : Int) : ∀ u ∈ inL x,u.oneCell' = true := by intro u hu; simp only [inL,List.mem_singleton] at hu; subst hu; rfl
def SpEnd (m : Nat) (w : World) (e : Ending) (w' : World) : Prop := (∃ v,e = .returned v ∧ w'.ownsRow w.heap.size 3 1 v (spI (m - 1)).length ((spI (m - 1)).flatMap inL)) ∧ Below w.heap.size w w'
theorem splits_any (m : Nat) (hm : m ≤ 9000) (w : World) : Calls Tryz.prog 47 #[.int .i64 (m : Nat)] w (SpEnd m w) := by
 have hup : Hid (∀ x : Int,0 ≤ x ∧ x ≤ 1000000 → ∀ w,Calls Tryz.prog 53 #[.int .i64 x] w fun e w' => e = .returned (.int .i64 (2 + 10 * x)) ∧ w' = w) := fun x hx w => upper_any x hx w
 have hend : Hid (∀ W v,Fill 1 inL 3 w v (spI (m - 1)) W → SpEnd m w (.returned v) W) := fun W v h => ⟨⟨v,rfl,h.row⟩,h.low⟩
 have hI0 : Hid (Fill 1 inL 3 w (.slice none 0 0) (spI 0) w) := Fill.start 3 w
 generalize SpEnd m w = E at *
 go_enter Tryz.func47,Tryz.ntmps47
 go_wp2_with fail
 go_loopw [3,4] (fun v3 v4 wr => ∃ (k : Nat) (va : Option Addr) (vc : Nat),k ≤ m - 1 ∧ v4 = .int .i64 ((k : Int) + 1) ∧ v3 = .slice va (spI k).length vc ∧ Hid (Fill 1 inL 3 w (.slice va (spI k).length vc) (spI k) wr)) (fun _ v4 _ => m - (intOf v4).toNat)
 case atStart => exact ⟨0,none,0,by omega,rfl,rfl,hI0⟩
 case round =>
  obtain ⟨k,va,vc,hk,rfl,rfl,hI⟩ := hrel
  clear hI0
  by_cases hlt : (k : Int) + 1 < (m : Int)
  ·have hlo : w.heap.size ≤ wr.heap.size := hI.out.low.size
   have hnx : Hid (∀ W v,Fill 1 inL 3 w v (spI k ++ [2 + 10 * ((k : Int) + 1)]) W → Fill 1 inL 3 w v (spI (k + 1)) W) := fun W v h => by rw [spI_succ]; exact h
   have hln : Hid ((spI k).length = k) := spI_len k
   have e2 : IntKind.i64.wrap ((k : Int) + 1 + 1) = (k : Int) + 1 + 1 := by rw [IntKind.wrap_i64]; omega
   have hup' := hup.out ((k : Int) + 1) ⟨by omega,by omega⟩
   clear hend
   generalize hq : 2 + 10 * ((k : Int) + 1) = q at *
   go_wp2_with (first | (go_at_call 53; refine (hup' _).mono ?_; rintro e w2 ⟨rfl,hww⟩; subst hww) | (refine wpList_app1 (k := 1) (f := inL) (w0 := w2) (bytes := 8) rfl el3 inL_len inL_one (by omega) (by omega) _ _ rfl w.heap.size (.slice va (spI k).length vc) (spI k) q rfl hI.out.row hlo (by have := hln.out; omega) rfl rfl ?_; intro v' w6 hr6 hb6; obtain ⟨g6,cap6,rfl,-,-,-⟩ := row_rb inL_len hr6 (by simp); have hI6 : Hid (Fill 1 inL 3 w (.slice (some ⟨g6,0,none⟩) (spI k ++ [q]).length cap6) (spI k ++ [q]) w6) := hI.out.app hr6 hb6; clear hr6 hb6 hI hlo))
   refine ⟨⟨k + 1,some ⟨g6,0,none⟩,cap6,by omega,?_,?_,?_⟩,by simp [intOf]; omega⟩
   ·rfl
   ·have := spI_len (k + 1)
    rw [hln.out,this]
   ·have h := hnx.out _ _ hI6.out
    rw [List.length_append,hln.out] at h
    rw [spI_len]
    exact h
  ·have hkm : k = m - 1 := by omega
   subst hkm
   go_wp2_with fail
   exact hend.out _ _ hI.out
end Go.Proofs.YtaphggjakaghjaaGreatDoor

namespace Go.Proofs.YtaphggjakaghjaaGreatDoor
open Go.RowKit Go.Shelf
set_option maxRecDepth 100000
set_option maxHeartbeats 4000000

def gt (L : List Co) (k : Nat) : Int := tot (gmAt L) k - tot (sAt L) k
def groR (L : List Co) (q : Int) : Int := min q (tot (gmAt L) L.length) - tot (sAt L) L.length
def groF (L : List Co) (q : Int) (i : Nat) : Int := sAt L i + (gv (groR L q) (gt L L.length) (gt L (i + 1)) - gv (groR L q) (gt L L.length) (gt L i))
def groL (L : List Co) (q : Int) : List Int := (List.range L.length).map (groF L q)
theorem gt_succ {L : List Co} {k : Nat} (h : k < L.length) : gt L (k + 1) = gt L k + (L[k].m - L[k].s) := by
 unfold gt
 show tot (gmAt L) k + gmAt L k - (tot (sAt L) k + sAt L k) = _
 rw [sAt_get h,mAt_get h]; omega
theorem gt_rng {L : List Co} (h : Few L) {k : Nat} (hk : k ≤ L.length) : 0 ≤ gt L k ∧ gt L k ≤ 6552032 := by
 have := h.tot k hk
 have hl := h.1
 unfold gt
 omega
theorem groR_rng {L : List Co} (h : Few L) {q : Int} (hq : tot (sAt L) L.length ≤ q ∧ q ≤ 4095) : 0 ≤ groR L q ∧ groR L q ≤ 4095 := by
 have := h.tot L.length (Nat.le_refl _)
 unfold groR
 omega

theorem grown_any (v : Value) (L : List Co) (hL : Few L) (q : Int) (hq : tot (sAt L) L.length ≤ q ∧ q ≤ 4095) (w : World) (hS : RecAt 2 coL w v L) :
  Calls Tryz.prog 44 #[v,.agg #[.int .i64 (tot (sAt L) L.length),.int .i64 (tot (gmAt L) L.length)],.int .i64 q] w fun e w' => ∃ b,w.heap.size ≤ b ∧ e = .returned (.slice (some ⟨b,0,none⟩) L.length L.length) ∧ IBk w' b (groL L q) ∧ Below w.heap.size w w' := by
 obtain ⟨a,cap,rfl,h2⟩ := hS.ex
 clear hS
 have hlen := hL.1
 have htot := hL.tot L.length (Nat.le_refl _)
 have hR : Hid (groR L q = min q (tot (gmAt L) L.length) - tot (sAt L) L.length) := (rfl : _ = _)
 have hP : Hid (gt L L.length = tot (gmAt L) L.length - tot (sAt L) L.length) := (rfl : _ = _)
 have hRr := groR_rng hL hq
 have hB1 := (Below.refl w.heap.size w).alloc (Nat.le_refl _) (.cells #[.int .i64 (tot (sAt L) L.length),.int .i64 (tot (gmAt L) L.length)] 74)
 have hr1 := B2.new w (tot (sAt L) L.length) (tot (gmAt L) L.length)
 have hs1 : (w.alloc (.cells #[.int .i64 (tot (sAt L) L.length),.int .i64 (tot (gmAt L) L.length)] 74)).heap.size = w.heap.size + 1 := World.size_alloc _ _
 generalize tot (sAt L) L.length = S at *
 generalize tot (gmAt L) L.length = M at *
 go_enter Tryz.func44,Tryz.ntmps44
 go_wp2_with fail
 generalize w.alloc (.cells #[.int .i64 S,.int .i64 M] 74) = w1 at *
 refine gro_r1 _ (fun _ _ _ _ _ h => h) _ _ w.heap.size q S M _ _ _ _ _ _ _ _ _ _ _ _ _ _ _ _ _ _ _ _ _ _ _ _ _ _ _ _ _ w1 (by omega) (by omega) hr1 ?_
 intro B w2 hBB hS2 hb2
 rw [← hR.out,← hP.out] at hS2 ⊢
 have hb3 : Below w.heap.size w w2 := hB1.trans (hb2.mono hB1.size)
 have hmk := make26 (n := L.length) (by omega) w2
 go_wp2_with fail
 have hI : IBk (w2.alloc (.cells (ints (List.replicate L.length 0)).toArray 3)) w2.heap.size (upto (groF L q) L.length 0) := by rw [upto_zero]; exact World.alloc_heap_new w2 _
 have hS3 := hS2.turns (Turns.alloc Noth w2 (.cells (ints (List.replicate L.length 0)).toArray 3)) (fun h => h)
 have hb4 := hb3.alloc hb3.size (.cells (ints (List.replicate L.length 0)).toArray 3)
 have hne : B < w2.heap.size := hS2.lt
 have hBw : w.heap.size ≤ B := by have := hB1.size; omega
 generalize w2.alloc (.cells (ints (List.replicate L.length 0)).toArray 3) = w3 at *
 obtain ⟨T,hT⟩ : ∃ T,w2.heap.size = T := ⟨_,rfl⟩
 rw [hT] at hmk hI hne ⊢
 clear hT hS2 hb3 hb2 hB1 hr1 hs1
 clear hmk
 go_loopw [26] (fun i wr => ∃ k : Nat,k ≤ L.length ∧ i = .int .i64 (k : Int) ∧ Below w.heap.size w wr ∧ Hid (SH wr B (groR L q) (gt L L.length) (gt L k) (gv (groR L q) (gt L L.length) (gt L k))) ∧ Hid (IBk wr T (upto (groF L q) L.length k))) (fun i _ => L.length - (intOf i).toNat)
 case atStart => exact ⟨0,by omega,rfl,hb4,by rw [show gt L 0 = 0 from rfl,gv_zero]; exact hS3,hI⟩
 case round =>
  clear hI hS3 hb4
  obtain ⟨k,hk,rfl,hb,hr,hi⟩ := hrel
  by_cases hlt : k < L.length
  ·have hlt' : (k : Int) < L.length := by omega
   rcases h2 with h2 | ⟨b,o,rfl,hbl,hc⟩
   ·rw [h2] at hlt; simp at hlt
   have c0 : wr.cell? ⟨b,o + k * 2,none⟩ = some (.int .i64 L[k].s) := (hb.cell hbl).trans (hc k hlt 0 _ rfl)
   have c1 : wr.cell? ⟨b,o + k * 2 + 1,none⟩ = some (.int .i64 L[k].m) := (hb.cell hbl).trans (hc k hlt 1 _ rfl)
   have hx := hL.2 k hlt
   have htk := gt_rng hL (k := k) (by omega)
   have htn := gt_rng hL (k := L.length) (by omega)
   have hg := gv_rng (r := groR L q) (p := gt L L.length) (t := gt L k) hRr.1 htk.1
   have hg2 : groR L q * gt L k ≤ 4095 * 6552032 := Int.mul_le_mul hRr.2 htk.2 htk.1 (by omega)
   have hgs : Hid (gt L (k + 1) = gt L k + (L[k].m - L[k].s)) := (gt_succ hlt : _ = _)
   have hF : Hid (groF L q k = L[k].s + (gv (groR L q) (gt L L.length) (gt L k + (L[k].m - L[k].s)) - gv (groR L q) (gt L L.length) (gt L k))) := (by unfold groF; rw [gt_succ hlt,sAt_get hlt] : _ = _)
   have hC := B2.new wr L[k].s L[k].m
   have hT4 : Turns Noth wr (wr.alloc (.cells #[.int .i64 L[k].s,.int .i64 L[k].m] 74)) := Turns.alloc Noth wr _
   have hb5 := hb.alloc hb.size (.cells #[.int .i64 L[k].s,.int .i64 L[k].m] 74)
   have hr5 := hr.out.turns hT4 (fun h => h)
   have hi5 := hi.out.turns hT4 (fun h => h)
   have hsz : (wr.alloc (.cells #[.int .i64 L[k].s,.int .i64 L[k].m] 74)).heap.size = wr.heap.size + 1 := World.size_alloc _ _
   have hTl : T < wr.heap.size := hi.out.lt
   have hBl : B < wr.heap.size := hr.out.lt
   obtain ⟨hkl,hk0⟩ := upto_get (f := groF L q) hlt
   have hci := hi5.cell hkl
   rw [hk0] at hci
   obtain ⟨c2,z2⟩ := hci
   clear hc hr hi hb hT4 hkl hk0
   generalize L[k].s = x at *
   generalize L[k].m = y at *
   generalize groR L q = R at *
   generalize hn : L.length = n at *
   have hi6 : Hid (IBk (wr.alloc (.cells #[.int .i64 x,.int .i64 y] 74)) T (upto (groF L q) n k)) := hi5
   clear hi5
   have hwr := wr.heap.size
   go_wp2_with fail
   generalize wr.alloc (.cells #[.int .i64 x,.int .i64 y] 74) = w5 at *
   refine gro_r6 _ (fun _ _ _ _ _ h => h) _ _ B T wr.heap.size n k x y R (gt L n) (gt L k) (gv R (gt L n) (gt L k)) _ _ _ _ _ _ _ _ _ _ _ _ _ _ _ _ _ _ _ _ _ _ _ _ _ _ _ _ _ _ _ _ _ _ _ _ _ _ w5 (by omega) (by omega) (by omega) (by omega) (by omega) hlt hC hr5 c2 z2 (by omega) (by omega) (by omega) (by omega) ?_
   intro w6 hs6 ht6
   have h7 : Below w.heap.size w (w6.setCell ⟨T,k,none⟩ (.int .i64 (x + (gv R (gt L n) (gt L k + (y - x)) - gv R (gt L n) (gt L k))))) := (hb5.trans (ht6.below hb5.size (fun k hk => by omega))).setCell (p := ⟨T,k,none⟩) (by show _ ≤ T; omega) _
   have h8 : Hid (SH (w6.setCell ⟨T,k,none⟩ (.int .i64 (x + (gv R (gt L n) (gt L k + (y - x)) - gv R (gt L n) (gt L k))))) B R (gt L n) (gt L (k + 1)) (gv R (gt L n) (gt L (k + 1)))) := by
    rw [hgs.out]
    exact hs6.turns (Turns.setCell (X := fun b => b = T) w6 (p := ⟨T,k,none⟩) rfl _) (by omega)
   have h9 : Hid (IBk (w6.setCell ⟨T,k,none⟩ (.int .i64 (x + (gv R (gt L n) (gt L k + (y - x)) - gv R (gt L n) (gt L k))))) T (upto (groF L q) n (k + 1))) := by
    rw [← hF.out,← upto_set hlt]
    exact (hi6.out.turns ht6 (by omega)).set k _
   generalize w6.setCell ⟨T,k,none⟩ (.int .i64 (x + (gv R (gt L n) (gt L k + (y - x)) - gv R (gt L n) (gt L k)))) = w7 at *
   clear hs6 ht6 hi6 hr5 hC c2 z2 hF hgs
   go_wp2_with fail
   go_roundw
   case rel => exact ⟨k + 1,by omega,by simp,h7,h8,h9⟩
   case measure => simp [intOf]; omega
  ·obtain rfl : k = L.length := by omega
   have hge : ¬ (L.length : Int) < L.length := by omega
   clear h2
   go_wp2_with fail
   go_ret
   exact ⟨T,by omega,rfl,by have := hi.out; rw [upto_all] at this; exact this,hb⟩
end Go.Proofs.YtaphggjakaghjaaGreatDoor

namespace Go.Proofs.YtaphggjakaghjaaGreatDoor
open Go.RowKit Go.Shelf
attribute [local go_sem] Oper.semAt_some wide_fn wide_depth

theorem strs_own {W : World} {v : Value} {l : List ByteArray} (h : StrsAt W v l) (hl : l ≠ []) : ∀ g,v.ownBlock = some g → g < W.heap.size := by
 obtain ⟨⟨a,cap,rfl,h2⟩,hle⟩ := h
 rcases h2 with h2 | ⟨b,o,rfl,hlt,hc⟩
 ·exact absurd h2 hl
 ·intro g hg; cases hg; exact hlt
def leS (c : Nat) (l : List ByteArray) (k : Nat) : List Int := (List.range k).map fun i => (colI c l i).s
def leM (c : Nat) (l : List ByteArray) (k : Nat) : List Int := (List.range k).map fun i => (colI c l i).m
end Go.Proofs.YtaphggjakaghjaaGreatDoor

namespace Go.Proofs.YtaphggjakaghjaaGreatDoor
open Go.RowKit Go.Shelf
set_option maxRecDepth 100000
set_option maxHeartbeats 4000000

def sumS (n : Nat) (l : List ByteArray) : Int := tot (sAt (cols n l)) n
def sumM (n : Nat) (l : List ByteArray) : Int := tot (gmAt (cols n l)) n
def wdL (n : Nat) (l : List ByteArray) (q : Int) : List Int := if q < sumS n l then evL n q else groL (cols n l) q
def WdEnd (c : Int) (l : List ByteArray) (q : Int) (w : World) (e : Ending) (w' : World) : Prop :=
 Below w.heap.size w w' ∧
 ((chkG c l ≠ 0 ∧ e = .returned (.tuple #[.slice none 0 0,.bool false,.int .i64 (chkG c l)])) ∨
 (chkG c l = 0 ∧ ¬ (0 ≤ q ∧ q ≤ 4095) ∧ e = .returned (.tuple #[.slice none 0 0,.bool false,.int .i64 5])) ∨
 (chkG c l = 0 ∧ (0 ≤ q ∧ q ≤ 4095) ∧ ∃ b,w.heap.size ≤ b ∧ e = .returned (.tuple #[.slice (some ⟨b,0,none⟩) c.toNat c.toNat,.bool (decide (q < sumS c.toNat l)),.int .i64 0]) ∧ IBk w' b (wdL c.toNat l q)))

theorem widths_any (c : Int) (v : Value) (l : List ByteArray) (q : Int) (hl : l.length ≤ 9223372036854775807) (hsz : ∀ t ∈ l,t.size ≤ 9223372036854775807) (w : World) (hS : StrsAt w v l) :
  Calls Tryz.prog 26 #[.agg #[.int .i64 c,v],.int .i64 q] w (WdEnd c l q w) := by
 have hB0 := (Below.refl w.heap.size w).alloc (Nat.le_refl _) (.cells #[.int .i64 c,v] 24)
 have hS0 := hS.below hB0 (Nat.le_refl _)
 have hs0 : (w.alloc (.cells #[.int .i64 c,v] 24)).heap.size = w.heap.size + 1 := World.size_alloc _ _
 have hbx : (w.alloc (.cells #[.int .i64 c,v] 24)).heap[w.heap.size]? = some (.cells #[.int .i64 c,v] 24) := World.alloc_heap_new w _
 have hck := gcheck_any c v l hl hsz _ hS0
 by_cases hz : ¬ chkG c l = 0
 ·have hne : ¬ chkG c l = 0 := hz
  have c0 : (w.alloc (.cells #[.int .i64 c,v] 24)).cell? ⟨w.heap.size,0,none⟩ = some (.int .i64 c) := by rw [Lib.cell_of_heap hbx]; rfl
  have c1 : (w.alloc (.cells #[.int .i64 c,v] 24)).cell? ⟨w.heap.size,1,none⟩ = some v := by rw [Lib.cell_of_heap hbx]; rfl
  have hend : Hid (∀ e w1,e = .returned (.tuple #[.slice none 0 0,.bool false,.int .i64 (chkG c l)]) → Below (w.alloc (.cells #[.int .i64 c,v] 24)).heap.size (w.alloc (.cells #[.int .i64 c,v] 24)) w1 → WdEnd c l q w e w1) := fun e w1 he hb => ⟨hB0.trans (hb.mono hB0.size),.inl ⟨hz,he⟩⟩
  generalize chkG c l = ee at *
  generalize hP : WdEnd c l q w = P at *
  go_enter Tryz.func26,Tryz.ntmps26
  go_wp2_with (go_at_call 33; refine hck.mono ?_; rintro e w1 ⟨rfl,b1⟩)
  exact hend.out _ _ rfl b1
 replace hz := Classical.not_not.1 hz
 rw [hz] at hck
 obtain ⟨n,rfl,hn1,hl1,hd1,hC1⟩ := chk_ok hz
 have hT : Tab n l := ⟨hn1,hl1,hd1,hC1⟩
 obtain ⟨n1,n2⟩ := hn1
 have c0 : (w.alloc (.cells #[.int .i64 n,v] 24)).cell? ⟨w.heap.size,0,none⟩ = some (.int .i64 n) := by rw [Lib.cell_of_heap hbx]; rfl
 have c1 : (w.alloc (.cells #[.int .i64 n,v] 24)).cell? ⟨w.heap.size,1,none⟩ = some v := by rw [Lib.cell_of_heap hbx]; rfl
 have hvb := strs_own hS (by rintro rfl; simp at hl1)
 by_cases hq0 : q < 0
 ·have hend : Hid (∀ e w1,e = .returned (.tuple #[.slice none 0 0,.bool false,.int .i64 5]) → Below (w.alloc (.cells #[.int .i64 n,v] 24)).heap.size (w.alloc (.cells #[.int .i64 n,v] 24)) w1 → WdEnd n l q w e w1) := fun e w1 he hb => ⟨hB0.trans (hb.mono hB0.size),.inr (.inl ⟨hz,by omega,he⟩)⟩
  generalize hP : WdEnd n l q w = P at *
  go_enter Tryz.func26,Tryz.ntmps26
  go_wp2_with (go_at_call 33; refine hck.mono ?_; rintro e w1 ⟨rfl,b1⟩)
  exact hend.out _ _ rfl b1
 by_cases hq1 : 4095 < q
 ·have hend : Hid (∀ e w1,e = .returned (.tuple #[.slice none 0 0,.bool false,.int .i64 5]) → Below (w.alloc (.cells #[.int .i64 n,v] 24)).heap.size (w.alloc (.cells #[.int .i64 n,v] 24)) w1 → WdEnd n l q w e w1) := fun e w1 he hb => ⟨hB0.trans (hb.mono hB0.size),.inr (.inl ⟨hz,by omega,he⟩)⟩
  generalize hP : WdEnd n l q w = P at *
  go_enter Tryz.func26,Tryz.ntmps26
  go_wp2_with (go_at_call 33; refine hck.mono ?_; rintro e w1 ⟨rfl,b1⟩)
  exact hend.out _ _ rfl b1
 have hco := columns_any n v
 have hcl := fun (W : World) hR hv => collect_any W.heap.size n v l hT (W.alloc (.cells #[.int .i64 n,v] 24)) hR hv
 have hF := cols_few hT
 have hcn : (cols n l).length = n := cols_len n l
 have hrow : ∀ u W,W.ownsRow w.heap.size 74 2 u n (rowT n l n) → RecAt 2 coL W u (cols n l) := fun u W h => rec_of_row coL_len hcn.symm h
 have htg := fun u W hr => together_any u (cols n l) hF W hr
 rw [hcn] at htg
 have hgr := fun u W hr (hq : tot (sAt (cols n l)) n ≤ q ∧ q ≤ 4095) => grown_any u (cols n l) hF q (by rw [hcn]; exact hq) W hr
 rw [hcn] at hgr
 have hev := evenly_any n q ⟨n1,n2⟩ ⟨by omega,by omega⟩
 have hSS : sumS n l = tot (sAt (cols n l)) n := rfl
 have hMM : sumM n l = tot (gmAt (cols n l)) n := rfl
 have hrs := hF.tot n (by omega)
 rw [← hSS,← hMM] at htg hgr hrs
 by_cases htt : q < sumS n l
 ·have hend : Hid (∀ b e w1,e = .returned (.tuple #[.slice (some ⟨b,0,none⟩) n n,.bool true,.int .i64 0]) → w.heap.size ≤ b → IBk w1 b (evL n q) → Below w.heap.size w w1 → WdEnd n l q w e w1) := fun b e w1 he h1 h2 h3 => ⟨h3,.inr (.inr ⟨hz,by omega,b,h1,by rw [he,show (n : Int).toNat = n from rfl,decide_eq_true htt],by rw [show (n : Int).toNat = n from rfl]; unfold wdL; rw [if_pos htt]; exact h2⟩)⟩
  clear hgr hMM hSS
  generalize sumS n l = S at *
  generalize sumM n l = M at *
  generalize hP : WdEnd n l q w = P at *
  go_enter Tryz.func26,Tryz.ntmps26
  go_wp2_with (first
   | (go_at_call 33; refine hck.mono ?_; rintro e w1 ⟨rfl,b1⟩; have hx1 := (b1.block w.heap.size (by omega)).trans hbx; (have c2 : w1.cell? ⟨w.heap.size,0,none⟩ = some (.int .i64 n) := by rw [Lib.cell_of_heap hx1]; rfl); (have c3 : w1.cell? ⟨w.heap.size,1,none⟩ = some v := by rw [Lib.cell_of_heap hx1]; rfl); have hB1 := hB0.trans (b1.mono hB0.size); have hlt1 := (Array.getElem?_eq_some_iff.1 hx1).1)
   | (go_at_call 41; refine (hco _).mono ?_; rintro e w2 ⟨rfl,rfl⟩; have hB2 := hB1.alloc hB1.size (.cells #[.int .i64 n,v] 24); have hR2 : ReadT w1.heap.size n v l (w1.alloc (.cells #[.int .i64 n,v] 24)) := ⟨TB.new w1 n v,hS.below hB2 (Nat.le_refl _)⟩; have hz2 : (w1.alloc (.cells #[.int .i64 n,v] 24)).heap.size = w1.heap.size + 1 := World.size_alloc _ _)
   | (go_at_call 40; refine (hcl w1 hR2 (fun g hg => by have := hvb g hg; omega)).mono ?_; rintro e w3 ⟨u,rfl,hr3,b3⟩; have hB3 := hB2.trans (b3.mono hB2.size); have hA3 := hrow u w3 (ownsRow_base hr3 (by have := hB2.size; omega)))
   | (go_at_call 42; refine (htg u w3 hA3).mono ?_; rintro e w4 ⟨rfl,b4⟩; have hB4 := hB3.trans (b4.mono hB3.size); have hB5 := hB4.alloc hB4.size (.cells #[.int .i64 S,.int .i64 M] 74); have hr5 := B2.new w4 S M; have d0 := hr5.c0; have d1 := hr5.c1; have hz3 := b3.size; have hz4 := b4.size; have hx5 : (w4.alloc (.cells #[.int .i64 S,.int .i64 M] 74)).heap[w.heap.size]? = some (.cells #[.int .i64 n,v] 24) := (Below.heap_alloc _ _ _ (by omega)).trans ((b4.block _ (by omega)).trans ((b3.block _ (by omega)).trans ((Below.heap_alloc _ _ _ hlt1).trans hx1))); (have c6 : (w4.alloc (.cells #[.int .i64 S,.int .i64 M] 74)).cell? ⟨w.heap.size,0,none⟩ = some (.int .i64 n) := by rw [Lib.cell_of_heap hx5]; rfl))
   | (go_at_call 43; refine (hev _).mono ?_; rintro e w6 ⟨b,hb6,rfl,hI6,b6⟩; have hB6 := hB5.trans (b6.mono hB5.size); have hz6 := hB5.size))
  exact hend.out b _ _ rfl (by omega) hI6 hB6
 ·have hend : Hid (∀ b e w1,e = .returned (.tuple #[.slice (some ⟨b,0,none⟩) n n,.bool false,.int .i64 0]) → w.heap.size ≤ b → IBk w1 b (groL (cols n l) q) → Below w.heap.size w w1 → WdEnd n l q w e w1) := fun b e w1 he h1 h2 h3 => ⟨h3,.inr (.inr ⟨hz,by omega,b,h1,by rw [he,show (n : Int).toNat = n from rfl,decide_eq_false htt],by rw [show (n : Int).toNat = n from rfl]; unfold wdL; rw [if_neg htt]; exact h2⟩)⟩
  clear hev
  have hgr' := fun u W hr => hgr u W hr ⟨by omega,by omega⟩
  clear hgr hMM hSS
  generalize sumS n l = S at *
  generalize sumM n l = M at *
  generalize hP : WdEnd n l q w = P at *
  go_enter Tryz.func26,Tryz.ntmps26
  go_wp2_with (first
   | (go_at_call 33; refine hck.mono ?_; rintro e w1 ⟨rfl,b1⟩; have hx1 := (b1.block w.heap.size (by omega)).trans hbx; (have c2 : w1.cell? ⟨w.heap.size,0,none⟩ = some (.int .i64 n) := by rw [Lib.cell_of_heap hx1]; rfl); (have c3 : w1.cell? ⟨w.heap.size,1,none⟩ = some v := by rw [Lib.cell_of_heap hx1]; rfl); have hB1 := hB0.trans (b1.mono hB0.size); have hlt1 := (Array.getElem?_eq_some_iff.1 hx1).1)
   | (go_at_call 41; refine (hco _).mono ?_; rintro e w2 ⟨rfl,rfl⟩; have hB2 := hB1.alloc hB1.size (.cells #[.int .i64 n,v] 24); have hR2 : ReadT w1.heap.size n v l (w1.alloc (.cells #[.int .i64 n,v] 24)) := ⟨TB.new w1 n v,hS.below hB2 (Nat.le_refl _)⟩; have hz2 : (w1.alloc (.cells #[.int .i64 n,v] 24)).heap.size = w1.heap.size + 1 := World.size_alloc _ _)
   | (go_at_call 40; refine (hcl w1 hR2 (fun g hg => by have := hvb g hg; omega)).mono ?_; rintro e w3 ⟨u,rfl,hr3,b3⟩; have hB3 := hB2.trans (b3.mono hB2.size); have hA3 := hrow u w3 (ownsRow_base hr3 (by have := hB2.size; omega)))
   | (go_at_call 42; refine (htg u w3 hA3).mono ?_; rintro e w4 ⟨rfl,b4⟩; have hB4 := hB3.trans (b4.mono hB3.size); have hB5 := hB4.alloc hB4.size (.cells #[.int .i64 S,.int .i64 M] 74); have hr5 := B2.new w4 S M; have d0 := hr5.c0; have d1 := hr5.c1; have hz3 := b3.size; have hz4 := b4.size; have hA5 := hA3.below (b4.alloc b4.size (.cells #[.int .i64 S,.int .i64 M] 74)) (Nat.le_refl _))
   | (go_at_call 44; refine (hgr' u _ hA5).mono ?_; rintro e w6 ⟨b,hb6,rfl,hI6,b6⟩; have hB6 := hB5.trans (b6.mono hB5.size); have hz6 := hB5.size))
  exact hend.out b _ _ rfl (by omega) hI6 hB6
end Go.Proofs.YtaphggjakaghjaaGreatDoor

namespace Go.Proofs.YtaphggjakaghjaaGreatDoor
open Go.RowKit Go.Shelf
set_option maxRecDepth 100000
set_option maxHeartbeats 2000000

theorem InAt.cell {W : World} {b o : Nat} {l : List Int} {k : Nat} (hk : k < l.length) (h : ∀ (i : Nat) (h : i < l.length) (j : Nat) (u : Value),(inL l[i])[j]? = some u → W.cell? ⟨b,o + i * 1 + j,none⟩ = some u) : W.cell? ⟨b,o + k,none⟩ = some (.int .i64 l[k]) := by
 have := h k hk 0 _ rfl
 rwa [show o + k * 1 + 0 = o + k by omega] at this
theorem sameInts_yes (v1 v2 : Value) (L : List Int) (hlen : L.length ≤ 140737488355328) (w : World) (h1 : InAt w v1 L) (h2 : InAt w v2 L) :
  Calls Tryz.prog 32 #[v1,v2] w fun e w' => e = .returned (.bool true) ∧ Below w.heap.size w w' := by
 obtain ⟨a1,cap1,rfl,k1⟩ := h1.ex
 obtain ⟨a2,cap2,rfl,k2⟩ := h2.ex
 go_enter Tryz.func32,Tryz.ntmps32
 go_wp2_with fail
 go_loopw [5] (fun i wr => ∃ k : Nat,k ≤ L.length ∧ i = .int .i64 k ∧ Below w.heap.size w wr) (fun i _ => L.length - (RowKit.intOf i).toNat)
 case atStart => exact ⟨0,by omega,rfl,Below.refl _ _⟩
 case round =>
  obtain ⟨k,hk,rfl,hb⟩ := hrel
  by_cases hlt : k < L.length
  ·rcases k1 with k1 | ⟨b1,o1,rfl,hl1,hc1⟩
   ·rw [k1] at hlt; simp at hlt
   ·rcases k2 with k2 | ⟨b2,o2,rfl,hl2,hc2⟩
    ·rw [k2] at hlt; simp at hlt
    ·have d1 : wr.cell? ⟨b1,o1 + k,none⟩ = some (.int .i64 L[k]) := (hb.cell hl1).trans (InAt.cell hlt hc1)
     have d2 : wr.cell? ⟨b2,o2 + k,none⟩ = some (.int .i64 L[k]) := (hb.cell hl2).trans (InAt.cell hlt hc2)
     have hkl : (k : Int) < L.length := by omega
     clear hc1 hc2 h1 h2
     generalize L[k] = s at d1 d2
     go_wp2_with fail
     go_quiet (fail)
     go_wp2_with fail
     go_roundw
     case rel => exact ⟨k + 1,by omega,by simp,⟨hb.os,hb.tape,hb.output,hb.size,hb.block⟩⟩
     case measure => simp [RowKit.intOf]; omega
  ·obtain rfl : k = L.length := by omega
   go_wp2_with fail
   go_ret
   exact ⟨rfl,hb⟩

def exl : List ByteArray := [⟨#[97,98,32,99]⟩,⟨#[100,100]⟩]
theorem ex_ck : chkG 2 exl = 0 := by kernel_rfl
theorem sizes_ok (l : List ByteArray) (h : ∀ t ∈ l,t.size ≤ 200) : ∀ t ∈ l,t.size ≤ 9223372036854775807 := fun t ht => by have := h t ht; omega
theorem ex_small : ∀ t ∈ exl,t.size ≤ 9223372036854775807 := sizes_ok _ (by decide)
theorem ex_w30 : wdL 2 exl 30 = [16,14] ∧ decide (30 < sumS 2 exl) = false := by constructor <;> kernel_rfl
end Go.Proofs.YtaphggjakaghjaaGreatDoor

namespace Go.Proofs.YtaphggjakaghjaaGreatDoor
open Go.RowKit Go.Shelf

def smI (l : List Int) (k : Nat) : Int := tot (fun i => l.getD i 0) k
theorem smI_succ (l : List Int) (k : Nat) : smI l (k + 1) = smI l k + l.getD k 0 := rfl
theorem getD_map {f : Nat → Int} {n k : Nat} (h : k < n) : ((List.range n).map f).getD k 0 = f k := by
 rw [List.getD_eq_getElem?_getD,List.getElem?_eq_getElem (by simpa using h)]
 simp
theorem smI_map (f : Nat → Int) (n : Nat) : ∀ k,k ≤ n → smI ((List.range n).map f) k = tot f k
 | 0,_ => rfl
 | k + 1,h => by
  rw [smI_succ,smI_map f n k (by omega),getD_map (by omega)]
  rfl
theorem tot_ext {f g : Nat → Int} : ∀ k,(∀ i,i < k → f i = g i) → tot f k = tot g k
 | 0,_ => rfl
 | k + 1,h => by
  show tot f k + f k = tot g k + g k
  rw [tot_ext k (fun i hi => h i (by omega)),h k (by omega)]
theorem sAt_cols {n : Nat} {l : List ByteArray} {k : Nat} (h : k < n) : sAt (cols n l) k = (colI n l k).s := by
 rw [sAt_get (by rw [cols_len]; exact h),cols_get]
theorem mAt_cols {n : Nat} {l : List ByteArray} {k : Nat} (h : k < n) : gmAt (cols n l) k = (colI n l k).m := by
 rw [mAt_get (by rw [cols_len]; exact h),cols_get]
theorem sm_leS (n : Nat) (l : List ByteArray) (k : Nat) (h : k ≤ n) : smI (leS n l n) k = tot (sAt (cols n l)) k := by
 unfold leS
 rw [smI_map _ _ _ h]
 exact tot_ext k (fun i hi => (sAt_cols (by omega)).symm)
theorem sm_leM (n : Nat) (l : List ByteArray) (k : Nat) (h : k ≤ n) : smI (leM n l n) k = tot (gmAt (cols n l)) k := by
 unfold leM
 rw [smI_map _ _ _ h]
 exact tot_ext k (fun i hi => (mAt_cols (by omega)).symm)
theorem gv_mono {r p t d : Int} (hr : 0 ≤ r) (hd : 0 ≤ d) : gv r p t ≤ gv r p (t + d) := by
 unfold gv
 refine Int.ediv_le_ediv (by omega) ?_
 exact Int.mul_le_mul_of_nonneg_left (by omega) hr
theorem gv_step {r p t d : Int} (hd : 0 ≤ d) (hrp : r ≤ max p 1) : gv r p (t + d) ≤ gv r p t + d := by
 unfold gv
 have hm : 0 < max p 1 := by omega
 generalize max p 1 = m at *
 have h1 : r * (t + d) ≤ r * t + d * m := by
  rw [Int.mul_add]
  have : r * d ≤ m * d := Int.mul_le_mul_of_nonneg_right hrp hd
  rw [Int.mul_comm m d] at this
  omega
 have h2 := Int.ediv_le_ediv hm h1
 rw [Int.add_mul_ediv_right _ _ (by omega)] at h2
 exact h2
theorem tot_tele (g : Nat → Int) : ∀ k,tot (fun i => g (i + 1) - g i) k = g k - g 0
 | 0 => by show (0 : Int) = _; omega
 | k + 1 => by
  show tot (fun i => g (i + 1) - g i) k + (g (k + 1) - g k) = _
  rw [tot_tele g k]; omega
theorem tot_add (f g : Nat → Int) : ∀ k,tot (fun i => f i + g i) k = tot f k + tot g k
 | 0 => rfl
 | k + 1 => by
  show tot (fun i => f i + g i) k + (f k + g k) = tot f k + f k + (tot g k + g k)
  rw [tot_add f g k]; omega
structure Fit (n : Nat) (L A B : List Int) (q S : Int) : Prop where
 hl : L.length = n
 ha : A.length = n
 hb : B.length = n
 le : smI L n ≤ q
 eq : q ≤ smI B n → smI L n = q
 sa : smI A n = S
 lo : ∀ k,k < n → 0 ≤ L.getD k 0 ∧ L.getD k 0 ≤ 4095
 ins : ¬ q < S → ∀ k,k < n → A.getD k 0 ≤ L.getD k 0 ∧ L.getD k 0 ≤ B.getD k 0
 ra : ∀ k,k < n → 0 ≤ A.getD k 0 ∧ A.getD k 0 ≤ 819004
 rb : ∀ k,k < n → 0 ≤ B.getD k 0 ∧ B.getD k 0 ≤ 819004
theorem smI_rng {l : List Int} {n : Nat} {b : Int} (h : ∀ k,k < n → 0 ≤ l.getD k 0 ∧ l.getD k 0 ≤ b) : ∀ k,k ≤ n → 0 ≤ smI l k ∧ smI l k ≤ b * (k : Int)
 | 0,_ => by show (0 : Int) ≤ 0 ∧ (0 : Int) ≤ b * 0; omega
 | k + 1,hk => by
  have ih := smI_rng h k (by omega)
  have := h k (by omega)
  rw [smI_succ,show b * ((k + 1 : Nat) : Int) = b * (k : Int) + b by rw [Int.natCast_add,Int.mul_add]; simp]
  omega
theorem smI_ge {l : List Int} {n : Nat} {b : Int} (h : ∀ k,k < n → 0 ≤ l.getD k 0 ∧ l.getD k 0 ≤ b) : ∀ k j,j < k → k ≤ n → l.getD j 0 ≤ smI l k
 | 0,j,hj,_ => by omega
 | k + 1,j,hj,hk => by
  have h0 := (smI_rng h k (by omega)).1
  have := h k (by omega)
  rw [smI_succ]
  by_cases e : j = k
  ·rw [e]; omega
  ·have := smI_ge h k j (by omega) (by omega); omega
theorem ev_sum (n : Nat) (q : Int) (hn : 1 ≤ n) : tot (evF n q) n = q := by
 have h : tot (evF n q) n = gv q n n - gv q n (0 : Nat) := tot_tele (fun i => gv q n ((i : Nat) : Int)) n
 rw [h,show ((0 : Nat) : Int) = 0 from rfl,gv_zero]
 unfold gv
 rw [show max (n : Int) 1 = n by omega,Int.mul_ediv_cancel _ (by omega)]
 omega
theorem gro_sum (L : List Co) (hF : Few L) (q : Int) (hq : tot (sAt L) L.length ≤ q) : tot (groF L q) L.length = min q (tot (gmAt L) L.length) := by
 have h : tot (groF L q) L.length = tot (sAt L) L.length + (gv (groR L q) (gt L L.length) (gt L L.length) - gv (groR L q) (gt L L.length) (gt L 0)) := by
  rw [← tot_tele (fun i => gv (groR L q) (gt L L.length) (gt L i)),← tot_add]; rfl
 have ht := hF.tot L.length (Nat.le_refl _)
 have hg := gt_rng hF (Nat.le_refl L.length)
 have hR : groR L q = min q (tot (gmAt L) L.length) - tot (sAt L) L.length := rfl
 have hP : gt L L.length = tot (gmAt L) L.length - tot (sAt L) L.length := rfl
 rw [h,show gt L 0 = 0 from rfl,gv_zero]
 by_cases h0 : gt L L.length = 0
 ·rw [h0,gv_zero]; omega
 ·have e : gv (groR L q) (gt L L.length) (gt L L.length) = groR L q := by
   unfold gv
   rw [show max (gt L L.length) 1 = gt L L.length by omega,Int.mul_ediv_cancel _ h0]
  rw [e]; omega
theorem fit_of {n : Nat} {l : List ByteArray} (hT : Tab n l) {q : Int} (hq : 0 ≤ q ∧ q ≤ 4095) : Fit n (wdL n l q) (leS n l n) (leM n l n) q (sumS n l) := by
 have hF := cols_few hT
 have hcn : (cols n l).length = n := cols_len n l
 obtain ⟨n1,n2⟩ := hT.hc
 have hsa : smI (leS n l n) n = sumS n l := sm_leS n l n (Nat.le_refl _)
 have hsb : smI (leM n l n) n = sumM n l := sm_leM n l n (Nat.le_refl _)
 have gA : ∀ k,k < n → (leS n l n).getD k 0 = (colI n l k).s := fun k hk => getD_map hk
 have gB : ∀ k,k < n → (leM n l n).getD k 0 = (colI n l k).m := fun k hk => getD_map hk
 have hrng := hT.ha.col n
 have ra : ∀ k,k < n → 0 ≤ (leS n l n).getD k 0 ∧ (leS n l n).getD k 0 ≤ 819004 := fun k hk => by rw [gA k hk]; have := hrng k; omega
 have rb : ∀ k,k < n → 0 ≤ (leM n l n).getD k 0 ∧ (leM n l n).getD k 0 ≤ 819004 := fun k hk => by rw [gB k hk]; have := hrng k; omega
 have hts := hF.tot n (by omega)
 have hSM : sumS n l ≤ sumM n l := hts.2.1
 by_cases ht : q < sumS n l
 ·have hL : wdL n l q = evL n q := if_pos ht
  have gL : ∀ k,k < n → (evL n q).getD k 0 = evF n q k := fun k hk => getD_map hk
  have hs : smI (evL n q) n = q := by unfold evL; rw [smI_map _ _ _ (Nat.le_refl _),ev_sum n q n1]
  have lo0 : ∀ k,k < n → 0 ≤ (evL n q).getD k 0 ∧ (evL n q).getD k 0 ≤ 4095 * 9 := fun k hk => by
   rw [gL k hk]
   unfold evF
   have h1 := gv_mono (r := q) (p := n) (t := (k : Int)) (d := 1) hq.1 (by omega)
   have h2 := gv_rng (r := q) (p := n) (t := ((k + 1 : Nat) : Int)) hq.1 (by omega)
   have h3 := gv_rng (r := q) (p := n) (t := (k : Int)) hq.1 (by omega)
   have h4 : q * ((k + 1 : Nat) : Int) ≤ 4095 * 9 := Int.mul_le_mul hq.2 (by omega) (by omega) (by omega)
   rw [show ((k + 1 : Nat) : Int) = (k : Int) + 1 by omega] at *
   omega
  refine ⟨by rw [hL]; simp [evL],by simp [leS],by simp [leM],by rw [hL,hs]; omega,fun _ => by rw [hL,hs],hsa,fun k hk => ?_,fun h => absurd ht h,ra,rb⟩
  rw [hL]
  have := smI_ge lo0 n k hk (Nat.le_refl _)
  have := lo0 k hk
  omega
 ·have hL : wdL n l q = groL (cols n l) q := if_neg ht
  have e : groL (cols n l) q = (List.range n).map (groF (cols n l) q) := by unfold groL; rw [hcn]
  have gL : ∀ k,k < n → (groL (cols n l) q).getD k 0 = groF (cols n l) q k := fun k hk => by rw [e]; exact getD_map hk
  have hqS : tot (sAt (cols n l)) (cols n l).length ≤ q := by rw [hcn]; show sumS n l ≤ q; omega
  have hs : smI (groL (cols n l) q) n = min q (sumM n l) := by
   rw [e,smI_map _ _ _ (Nat.le_refl _)]
   have := gro_sum (cols n l) hF q hqS
   rw [hcn] at this
   exact this
  have hR := groR_rng hF ⟨hqS,hq.2⟩
  have hins : ∀ k,k < n → (colI n l k).s ≤ groF (cols n l) q k ∧ groF (cols n l) q k ≤ (colI n l k).m := fun k hk => by
   unfold groF
   rw [sAt_cols hk,gt_succ (by rw [hcn]; exact hk)]
   have hc := hrng k
   rw [cols_get]
   have h1 := gv_mono (r := groR (cols n l) q) (p := gt (cols n l) (cols n l).length) (t := gt (cols n l) k) (d := (colI n l k).m - (colI n l k).s) hR.1 (by omega)
   have h2 := gv_step (r := groR (cols n l) q) (p := gt (cols n l) (cols n l).length) (t := gt (cols n l) k) (d := (colI n l k).m - (colI n l k).s) (by omega) (by
    have hRe : groR (cols n l) q = min q (tot (gmAt (cols n l)) (cols n l).length) - tot (sAt (cols n l)) (cols n l).length := rfl
    have hPe : gt (cols n l) (cols n l).length = tot (gmAt (cols n l)) (cols n l).length - tot (sAt (cols n l)) (cols n l).length := rfl
    omega)
   omega
  have lo0 : ∀ k,k < n → 0 ≤ (groL (cols n l) q).getD k 0 ∧ (groL (cols n l) q).getD k 0 ≤ 819004 := fun k hk => by
   rw [gL k hk]; have := hins k hk; have := hrng k; omega
  refine ⟨by rw [hL,e]; simp,by simp [leS],by simp [leM],by rw [hL,hs]; omega,fun h => by rw [hsb] at h; rw [hL,hs]; omega,hsa,fun k hk => ?_,fun _ k hk => ?_,ra,rb⟩
  ·rw [hL]
   have := smI_ge lo0 n k hk (Nat.le_refl _)
   have := lo0 k hk
   omega
  ·rw [hL,gA k hk,gB k hk,gL k hk]
   exact hins k hk

end Go.Proofs.YtaphggjakaghjaaGreatDoor
