/-
  What is proved here: what measure of least answers.
  What is proved here: what line and demerits of least answer.
  What is proved here: what refuse of least answers; what beginning of a ruler is.
  What is proved here: what beginning of least answers.
-/
import Derived.Test.YtfiekhephkpdjaaGreatDoorG16
import Derived.Test.YtfiekhephkpdjaaGreatDoorG4
import Derived.Test.YtfiekhephkpdjaaGreatDoorG5
import Derived.Test.YtfiekhephkpdjaaGreatDoorG14
import Derived.Test.YtfiekhephkpdjaaGreatDoorG7
import Derived.Test.YtfiekhephkpdjaaGreatDoorG17
namespace Go.Proofs.YtfiekhephkpdjaaGreatDoor
open Go.RowKit Go.Shelf
set_option maxRecDepth 100000
set_option maxHeartbeats 4000000

theorem info50 (a b c : Value) : (Tryz.prog.info? 133).map (·.size) = some (ruA a b c).size := by show _ = some 3; kernel_rfl
def suAdd (x : Su) (i : It) : Su := ⟨if i.k = 3 then x.w else x.w + i.w,x.s + i.s,x.h + i.h⟩
def alF (l : List It) : Nat → Su
 | 0 => su0
 | i + 1 => suAdd (alF l i) (itAt l i)
def baF (l : List It) : Nat → Su
 | 0 => su0
 | i + 1 => if (itAt l i).k = 2 then baF l i else alF l (i + 1)
theorem ok_at {l : List It} (h : ckL l = 0) (i : Nat) (hi : i < l.length) : okP (itAt l i) := by
 have := List.all_eq_true.1 (ck_all h) _ (List.getElem_mem hi)
 rw [itAt_is hi]
 exact of_decide_eq_true this
theorem alF_rng {l : List It} (h : ckL l = 0) : ∀ i,i ≤ l.length → (0 ≤ (alF l i).w ∧ (alF l i).w ≤ 524288 * i) ∧ (0 ≤ (alF l i).s ∧ (alF l i).s ≤ 4095 * i) ∧ (0 ≤ (alF l i).h ∧ (alF l i).h ≤ 4095 * i)
 | 0,_ => ⟨⟨Int.le_refl _,Int.le_refl _⟩,⟨Int.le_refl _,Int.le_refl _⟩,Int.le_refl _,Int.le_refl _⟩
 | i + 1, hi => by
  have h1 := alF_rng h i (by omega)
  have h2 := ok_at h i (by omega)
  unfold okP at h2
  unfold alF suAdd
  refine ⟨?_,?_,?_⟩
  ·show 0 ≤ (if (itAt l i).k = 3 then _ else _) ∧ (if (itAt l i).k = 3 then _ else _) ≤ _
   split <;> omega
  ·show 0 ≤ (alF l i).s + (itAt l i).s ∧ (alF l i).s + (itAt l i).s ≤ _
   omega
  ·show 0 ≤ (alF l i).h + (itAt l i).h ∧ (alF l i).h + (itAt l i).h ≤ _
   omega
def upK (n : Nat) (f : Nat → Su) (k : Nat) : List Su := (List.range (n + 1)).map (fun j => if j ≤ k then f j else su0)
theorem upK_len (n : Nat) (f : Nat → Su) (k : Nat) : (upK n f k).length = n + 1 := by simp [upK]
theorem upK_at {n : Nat} {f : Nat → Su} {k j : Nat} (hj : j ≤ n) (hk : j ≤ k) : (upK n f k)[j]? = some (f j) := by
 unfold upK
 rw [List.getElem?_map,List.getElem?_range (by omega)]
 simp [hk]
theorem upK_set {n : Nat} {f : Nat → Su} {k : Nat} (hk : k < n) : (upK n f k).set (k + 1) (f (k + 1)) = upK n f (k + 1) := by
 apply List.ext_getElem?
 intro j
 by_cases e : k + 1 = j
 ·subst e
  rw [List.getElem?_set_self (by rw [upK_len]; omega),upK_at (by omega) (Nat.le_refl _)]
 ·rw [List.getElem?_set_ne e]
  unfold upK
  rw [List.getElem?_map,List.getElem?_map]
  by_cases hj : j < n + 1
  ·rw [List.getElem?_range hj]
   simp only [Option.map_some,Option.some.injEq]
   by_cases h : j ≤ k
   ·rw [if_pos h,if_pos (by omega)]
   ·rw [if_neg h,if_neg (by omega)]
  ·rw [List.getElem?_eq_none (by simp; omega)]; rfl
theorem upK_zero (n : Nat) {f : Nat → Su} (h : f 0 = su0) : upK n f 0 = List.replicate (n + 1) su0 := by
 apply List.ext_getElem?
 intro j
 unfold upK
 rw [List.getElem?_map]
 by_cases hj : j < n + 1
 ·rw [List.getElem?_range hj,List.getElem?_replicate_of_lt hj]
  simp only [Option.map_some,Option.some.injEq]
  by_cases e : j = 0
  ·rw [e,if_pos (Nat.le_refl _)]; exact h
  ·rw [if_neg (by omega)]
 ·rw [List.getElem?_eq_none (by simp; omega),List.getElem?_eq_none (by simp; omega)]; rfl
abbrev SusAt (W : World) (v : Value) (xs : List Su) : Prop := RecAt 3 suL W v xs
def alL (l : List It) : List Su := upK l.length (alF l) l.length
def baL (l : List It) : List Su := upK l.length (baF l) l.length
def MeEnd (v : Value) (l : List It) (w : World) (e : Ending) (w' : World) : Prop := ∃ va vb,e = .returned (.agg (ruA v va vb)) ∧ SusAt w' va (alL l) ∧ SusAt w' vb (baL l) ∧ Below w.heap.size w w'
structure MeJ (z : World) (R GA GB n : Nat) (v : Value) (A B : List Su) (W : World) : Prop where
 low : Below z.heap.size z W
 res : W.heap[z.heap.size]? = some (.cells #[.slice none 0 0,.slice none 0 0,.slice none 0 0] 133 (0,0))
 r : W.heap[R]? = some (.cells (ruA v (.slice (some ⟨GA,0,none⟩) (n + 1) (n + 1)) (.slice (some ⟨GB,0,none⟩) (n + 1) (n + 1))) 133 (0,0))
 ga : RB 3 suL W GA A
 gb : RB 3 suL W GB B
abbrev MeI (z : World) (R GA GB : Nat) (v : Value) (l : List It) (k : Nat) (W : World) : Prop := MeJ z R GA GB l.length v (upK l.length (alF l) k) (upK l.length (baF l) k) W
section
variable {z : World} {R GA GB n : Nat} {v : Value} {A B : List Su} {W W' : World}
theorem MeJ.next (h : MeJ z R GA GB n v A B W) (hb : Below W.heap.size W W') : MeJ z R GA GB n v A B W' := by
 have lt : ∀ {k : Nat} {x : Obj},W.heap[k]? = some x → k < W.heap.size := fun h => (Array.getElem?_eq_some_iff.1 h).1
 exact ⟨h.low.trans (hb.mono h.low.size),(hb.block _ (lt h.res)).trans h.res,(hb.block _ (lt h.r)).trans h.r,h.ga.below hb h.ga.lt,h.gb.below hb h.gb.lt⟩
theorem MeJ.drew (h : MeJ z R GA GB n v A B W) : MeJ z R GA GB n v A B W.drew := h.next (Below.refl _ _).drew
theorem MeJ.setA (h : MeJ z R GA GB n v A B W) {p : Nat} (hp : p < A.length) (x : Su) (hg : z.heap.size < GA) (e1 : GA ≠ GB) (e2 : GA ≠ R) : MeJ z R GA GB n v (A.set p x) B (W.setCells GA (p * 3) (suL x)) := by
 have ht := turns_setCells (X := fun k => k = GA) rfl (suL x) (p * 3) W
 have lt : ∀ {k : Nat} {x : Obj},W.heap[k]? = some x → k < W.heap.size := fun h => (Array.getElem?_eq_some_iff.1 h).1
 exact ⟨h.low.trans (ht.below h.low.size (fun k hk => by omega)),(ht.block _ (lt h.res) (by omega)).trans h.res,(ht.block _ (lt h.r) (fun e => e2 e.symm)).trans h.r,h.ga.set suL_len hp x,h.gb.turns ht (fun e => e1 e.symm)⟩
theorem MeJ.setB (h : MeJ z R GA GB n v A B W) {p : Nat} (hp : p < B.length) (x : Su) (hg : z.heap.size < GB) (e1 : GA ≠ GB) (e2 : GB ≠ R) : MeJ z R GA GB n v A (B.set p x) (W.setCells GB (p * 3) (suL x)) := by
 have ht := turns_setCells (X := fun k => k = GB) rfl (suL x) (p * 3) W
 have lt : ∀ {k : Nat} {x : Obj},W.heap[k]? = some x → k < W.heap.size := fun h => (Array.getElem?_eq_some_iff.1 h).1
 exact ⟨h.low.trans (ht.below h.low.size (fun k hk => by omega)),(ht.block _ (lt h.res) (by omega)).trans h.res,(ht.block _ (lt h.r) (fun e => e2 e.symm)).trans h.r,h.ga.turns ht e1,h.gb.set suL_len hp x⟩
theorem MeJ.mes (h : MeJ z R GA GB n v A B W) {T i : Nat} {x y : Su} (hA : A.length = n + 1) (hB : B.length = n + 1) (hy : B[i]? = some y) (ht : W.heap[T]? = some (.cells (suL x).toArray 182 (0,0))) : MeS R GA GB T n i v x y W := ⟨h.r,ht,⟨A,hA,h.ga⟩,⟨B,hB,hy,h.gb⟩⟩
end
theorem item_kept {W W' : World} {g1 g2 o1 o2 b : Nat} {vs1 vs2 : List Value} (h1 : b ≠ g1) (h2 : b ≠ g2) (hb : b < W.heap.size) (e : W' = (W.setCells g1 o1 vs1).setCells g2 o2 vs2) : W'.heap[b]? = W.heap[b]? := by
 subst e
 have t1 := turns_setCells (X := fun k => k = g1) rfl vs1 o1 W
 have t2 := turns_setCells (X := fun k => k = g2) rfl vs2 o2 (W.setCells g1 o1 vs1)
 exact (t2.block b (Nat.lt_of_lt_of_le hb t1.size) h2).trans (t1.block b hb h1)
theorem me_world {w wr : World} {R GA GB cap : Nat} {a : Option Addr} {l : List It} {k : Nat} (hJ : MeI w R GA GB (.slice a l.length cap) l k wr) (hlt : k < l.length) (xw xs xh : Int) (i : It) (ex : (⟨xw,xs,xh⟩ : Su) = alF l (k + 1)) (hgr : w.heap.size < GA ∧ w.heap.size < GB ∧ w.heap.size < R) (p1 : GA ≠ GB) (p2 : GA ≠ R) (p3 : GB ≠ R) (W0 : World) (e0 : W0 = World.drew ((wr.alloc (.cells (itL i).toArray 68)).alloc (.cells #[.int .i64 xw,.int .i64 xs,.int .i64 xh] 182))) :
  MeS R GA GB (wr.heap.size + 1) l.length k (.slice a l.length cap) ⟨xw,xs,xh⟩ (baF l k) W0 ∧ ∀ W1,W1 = (W0.setCells GA ((k + 1) * 3) (suL ⟨xw,xs,xh⟩)).setCells GB ((k + 1) * 3) (suL ⟨xw,xs,xh⟩) →
   MeJ w R GA GB l.length (.slice a l.length cap) (upK l.length (alF l) (k + 1)) ((upK l.length (baF l) k).set (k + 1) ⟨xw,xs,xh⟩) W1 ∧ W1.cell? ⟨wr.heap.size,0,none⟩ = some (.int .i64 i.k) ∧ W1.heap[wr.heap.size + 1]? = some (.cells (suL ⟨xw,xs,xh⟩).toArray 182 (0,0)) := by
 have hb1 := below2 wr (.cells (itL i).toArray 68) (.cells (suL ⟨xw,xs,xh⟩).toArray 182)
 have hn1 := alloc2_heap wr (.cells (itL i).toArray 68) (.cells (suL ⟨xw,xs,xh⟩).toArray 182)
 have hn0 : ((wr.alloc (.cells (itL i).toArray 68)).alloc (.cells (suL ⟨xw,xs,xh⟩).toArray 182)).heap[wr.heap.size]? = some (.cells (itL i).toArray 68 (0,0)) := (Below.heap_alloc _ _ _ (by simp)).trans (World.alloc_heap_new wr _)
 have e0' : W0 = World.drew ((wr.alloc (.cells (itL i).toArray 68)).alloc (.cells (suL ⟨xw,xs,xh⟩).toArray 182)) := e0
 have hJ0 : MeJ w R GA GB l.length (.slice a l.length cap) (upK l.length (alF l) k) (upK l.length (baF l) k) W0 := by rw [e0']; exact (hJ.next hb1).drew
 have hT0 : W0.heap[wr.heap.size + 1]? = some (.cells (suL ⟨xw,xs,xh⟩).toArray 182 (0,0)) := by rw [e0']; exact hn1
 have hI0 : W0.heap[wr.heap.size]? = some (.cells (itL i).toArray 68 (0,0)) := by rw [e0']; exact hn0
 obtain ⟨g1,g2,g3⟩ := hgr
 have hGb : GB < wr.heap.size := hJ.gb.lt
 have hGa : GA < wr.heap.size := hJ.ga.lt
 refine ⟨hJ0.mes (upK_len _ _ _) (upK_len _ _ _) (upK_at (by omega) (Nat.le_refl _)) hT0,fun W1 e1 => ⟨?_,?_,?_⟩⟩
 ·have hA := hJ0.setA (p := k + 1) (by rw [upK_len]; omega) ⟨xw,xs,xh⟩ g1 p1 p2
  rw [ex,upK_set hlt,← ex] at hA
  rw [e1]
  exact hA.setB (p := k + 1) (by rw [upK_len]; omega) ⟨xw,xs,xh⟩ g2 p1 p3
 ·have hh := item_kept (b := wr.heap.size) (g1 := GA) (g2 := GB) (by omega) (by omega) ((Array.getElem?_eq_some_iff.1 hI0).1) e1
  rw [Lib.cell_of_heap (hh.trans hI0)]; rfl
 ·have hh := item_kept (b := wr.heap.size + 1) (g1 := GA) (g2 := GB) (by omega) (by omega) ((Array.getElem?_eq_some_iff.1 hT0).1) e1
  exact hh.trans hT0
theorem measure_any (v : Value) (l : List It) (h : ckL l = 0) (w : World) (hS : ItsAt w v l) : Calls Tryz.prog 63 #[v] w (MeEnd v l w) := by
 obtain ⟨a,cap,rfl,-⟩ := hS.ex
 have h8 := ck_len h
 have h8' : (l.length : Int) ≤ 8192 := by omega
 have hb0 := (Below.refl w.heap.size w).alloc (Nat.le_refl _) (.cells #[.slice none 0 0,.slice none 0 0,.slice none 0 0] 133)
 have hr0 : (w.alloc (.cells #[.slice none 0 0,.slice none 0 0,.slice none 0 0] 133)).heap[w.heap.size]? = some (.cells #[.slice none 0 0,.slice none 0 0,.slice none 0 0] 133 (0,0)) := World.alloc_heap_new w _
 have hsz : (w.alloc (.cells #[.slice none 0 0,.slice none 0 0,.slice none 0 0] 133)).heap.size = w.heap.size + 1 := World.size_alloc _ _
 have hSh : Hid (ItsAt w (.slice a l.length cap) l) := hS
 have hb0h : Hid (Below w.heap.size w (w.alloc (.cells #[.slice none 0 0,.slice none 0 0,.slice none 0 0] 133))) := hb0
 have hr0h : Hid _ := hr0
 have hszh : Hid _ := hsz
 clear hS hb0 hr0 hsz
 go_enter Tryz.func63,Tryz.ntmps63
 go_wp2_with fail
 generalize w.alloc (.cells #[.slice none 0 0,.slice none 0 0,.slice none 0 0] 133) = wz at *
 refine me_r1 _ (fun _ _ _ _ _ h => h) _ _ a l.length cap wz wz (Below.refl _ _).drew trivial h8 h8' (fun GA GB R w1 hb1 _ f4 f8 f10 p1 p2 p3 => ?_)
 have hI : MeI w R GA GB (.slice a l.length cap) l 0 (w1.setRow R (ruA (.slice a l.length cap) (.slice (some ⟨GA,0,none⟩) (l.length + 1) (l.length + 1)) (.slice (some ⟨GB,0,none⟩) (l.length + 1) (l.length + 1)))) := by
  have lt : ∀ {k : Nat} {x : Obj},w1.heap[k]? = some x → k < w1.heap.size := fun h => (Array.getElem?_eq_some_iff.1 h).1
  have ht := Turns.setRow (X := fun k => k = R) w1 rfl (ruA (.slice a l.length cap) (.slice (some ⟨GA,0,none⟩) (l.length + 1) (l.length + 1)) (.slice (some ⟨GB,0,none⟩) (l.length + 1) (l.length + 1)))
  have hbw := hb0h.out.trans (hb1.mono hb0h.out.size)
  have hz1 : w.heap.size < wz.heap.size := by have := hszh.out; omega
  have hsz1 := hszh.out
  have f10a := f10.1
  refine ⟨hbw.trans (ht.below hbw.size (fun k hk => by omega)),?_,setRow_heap _ _ _ _ 133 _ f10.2,?_,?_⟩
  ·exact (ht.block _ (Nat.lt_of_lt_of_le hz1 hb1.size) (by omega)).trans ((hb1.block _ hz1).trans hr0h.out)
  ·rw [upK_zero _ rfl]
   refine RB.turns (RB.of_row f4.2 fun i hi j v hv => ?_) ht p2
   have hj : j < 3 := by have := (List.getElem?_eq_some_iff.1 hv).1; rw [suL_len] at this; exact this
   have := fm_get suL_len _ hi j hj
   rw [hv] at this
   simpa using this
  ·rw [upK_zero _ rfl]
   refine RB.turns (RB.of_row f8.2 fun i hi j v hv => ?_) ht p3
   have hj : j < 3 := by have := (List.getElem?_eq_some_iff.1 hv).1; rw [suL_len] at this; exact this
   have := fm_get suL_len _ hi j hj
   rw [hv] at this
   simpa using this
 have hIh : Hid (MeI w R GA GB (.slice a l.length cap) l 0 (w1.setRow R (ruA (.slice a l.length cap) (.slice (some ⟨GA,0,none⟩) (l.length + 1) (l.length + 1)) (.slice (some ⟨GB,0,none⟩) (l.length + 1) (l.length + 1))))) := hI
 have hgr : Hid (w.heap.size < GA ∧ w.heap.size < GB ∧ w.heap.size < R) := by
  have h1 := hszh.out
  exact ⟨by have := f4.1; omega,by have := f8.1; omega,by have := f10.1; omega⟩
 generalize w1.setRow R (ruA (.slice a l.length cap) (.slice (some ⟨GA,0,none⟩) (l.length + 1) (l.length + 1)) (.slice (some ⟨GB,0,none⟩) (l.length + 1) (l.length + 1))) = w2 at *
 clear hI f4 f8 f10 hb1 hr0h hszh hb0h
 unfold fr12
 go_wp2_with fail
 go_loopw [19] (fun i wr => ∃ k : Nat,k ≤ l.length ∧ i = .int .i64 k ∧ Hid (MeI w R GA GB (.slice a l.length cap) l k wr)) (fun i _ => l.length - (intOf i).toNat)
 case atStart => exact ⟨0,by omega,rfl,hIh⟩
 case round =>
  obtain ⟨k,hk,rfl,hI⟩ := hrel
  clear hIh
  by_cases hlt : k < l.length
  ·obtain ⟨b,o,rfl,hbl,hit⟩ := its_at hSh.out hlt
   have hi := hit wr hI.out.low
   have c0 := hi.c0
   have c1 := hi.c1
   have c2 := hi.c2
   have c3 := hi.c3
   have c4 := hi.c4
   have c5 := hi.c5
   have c6 := hi.c6
   have c7 := hi.c7
   have hlt' : (k : Int) < l.length := by omega
   have hlt1 : (k : Int) < (l.length : Int) + 1 := by omega
   have r1 : wr.cell? ⟨R,1,none⟩ = some (.slice (some ⟨GA,0,none⟩) (l.length + 1) (l.length + 1)) := by rw [Lib.cell_of_heap hI.out.r]; rfl
   have hal : ∀ j u,(suL (alF l k))[j]? = some u → wr.cell? ⟨GA,k * 3 + j,none⟩ = some u := fun j u hu => by
    have hk2 := upK_at (n := l.length) (f := alF l) (k := k) (j := k) (by omega) (Nat.le_refl _)
    obtain ⟨hkl,e⟩ := List.getElem?_eq_some_iff.1 hk2
    exact (hI.out.ga.all k hkl j u (by rw [e]; exact hu)).1
   have a0 := hal 0 _ rfl
   have a1 := hal 1 _ rfl
   have a2 := hal 2 _ rfl
   simp only [Nat.add_zero] at a0
   have hbd := alF_rng h k (by omega)
   have hok := ok_at h k hlt
   rw [itAt_is hlt] at hok
   unfold okP at hok
   obtain ⟨_,_,_,⟨w1',w2'⟩,⟨s1,s2⟩,⟨h1',h2'⟩,_⟩ := hok
   obtain ⟨⟨b1,b2⟩,⟨b3,b4⟩,b5,b6⟩ := hbd
   have hRl : R < wr.heap.size := (Array.getElem?_eq_some_iff.1 hI.out.r).1
   have hGl : GA < wr.heap.size := hI.out.ga.lt
   clear hit hal hi
   generalize hx : l[k] = it at *
   generalize hy : alF l k = su at *
   obtain ⟨k0,f0,t0,w0,s0,h0,q0,y0⟩ := it
   obtain ⟨sw,ss,sh⟩ := su
   simp only at c0 c1 c2 c3 c4 c5 c6 c7 a0 a1 a2 w1' w2' s1 s2 h1' h2' b1 b2 b3 b4 b5 b6
   have hkd : Hid ((itAt l k).k = k0) := by show _ = _; rw [itAt_is hlt,hx]
   have hAx : Hid (∀ x : Su,x = suAdd ⟨sw,ss,sh⟩ ⟨k0,f0,t0,w0,s0,h0,q0,y0⟩ → x = alF l (k + 1)) := fun x e => by rw [e]; show _ = suAdd (alF l k) (itAt l k); rw [hy,itAt_is hlt,hx]
   have hBy : Hid (k0 ≠ 2 → baF l (k + 1) = alF l (k + 1)) := fun e => by show (if (itAt l k).k = 2 then _ else _) = _; rw [if_neg (by rw [hkd.out]; exact e)]
   have hBg : Hid (k0 = 2 → baF l (k + 1) = baF l k) := fun e => by show (if (itAt l k).k = 2 then _ else _) = _; rw [if_pos (by rw [hkd.out]; exact e)]
   have hW : Hid (∀ xw xs xh : Int,(⟨xw,xs,xh⟩ : Su) = suAdd ⟨sw,ss,sh⟩ ⟨k0,f0,t0,w0,s0,h0,q0,y0⟩ → ∀ W0,W0 = World.drew ((wr.alloc (.cells #[.int .i64 k0,.int .i64 f0,.int .i64 t0,.int .i64 w0,.int .i64 s0,.int .i64 h0,.int .i64 q0,.bool y0] 68)).alloc (.cells #[.int .i64 xw,.int .i64 xs,.int .i64 xh] 182)) →
     MeS R GA GB (wr.heap.size + 1) l.length k (.slice (some ⟨b,o,none⟩) l.length cap) ⟨xw,xs,xh⟩ (baF l k) W0 ∧ ∀ W1,W1 = (W0.setCells GA ((k + 1) * 3) (suL ⟨xw,xs,xh⟩)).setCells GB ((k + 1) * 3) (suL ⟨xw,xs,xh⟩) →
     MeJ w R GA GB l.length (.slice (some ⟨b,o,none⟩) l.length cap) (upK l.length (alF l) (k + 1)) ((upK l.length (baF l) k).set (k + 1) ⟨xw,xs,xh⟩) W1 ∧ W1.cell? ⟨wr.heap.size,0,none⟩ = some (.int .i64 k0) ∧ W1.heap[wr.heap.size + 1]? = some (.cells (suL ⟨xw,xs,xh⟩).toArray 182 (0,0))) := fun xw xs xh ex W0 e0 => me_world hI.out hlt _ _ _ ⟨k0,f0,t0,w0,s0,h0,q0,y0⟩ (hAx.out _ ex) hgr.out p1 p2 p3 W0 e0
   have hn1 : Hid (∀ x : Su,k0 ≠ 2 → x = suAdd ⟨sw,ss,sh⟩ ⟨k0,f0,t0,w0,s0,h0,q0,y0⟩ → (upK l.length (baF l) k).set (k + 1) x = upK l.length (baF l) (k + 1)) := fun x h2 ex => by
    rw [hAx.out x ex,← hBy.out h2,upK_set hlt]
   have hn2 : Hid (∀ x : Su,k0 = 2 → ((upK l.length (baF l) k).set (k + 1) x).set (k + 1) (baF l k) = upK l.length (baF l) (k + 1)) := fun x h2 => by
    rw [List.set_set,← hBg.out h2,upK_set hlt]
   have hkb : (k : Int) + 1 < (l.length : Int) + 1 := by omega
   clear hx hy hSh h
   by_cases e3 : k0 = 3
   ·subst e3
    go_wp2_with fail
    have hx0 : (⟨sw,ss + s0,sh + h0⟩ : Su) = suAdd ⟨sw,ss,sh⟩ ⟨3,f0,t0,w0,s0,h0,q0,y0⟩ := by simp [suAdd]
    obtain ⟨hM,hN⟩ := hW.out _ _ _ hx0 _ rfl
    generalize (wr.alloc (.cells #[.int .i64 3,.int .i64 f0,.int .i64 t0,.int .i64 w0,.int .i64 s0,.int .i64 h0,.int .i64 q0,.bool y0] 68)).alloc (.cells #[.int .i64 sw,.int .i64 (ss + s0),.int .i64 (sh + h0)] 182) = wz at *
    refine me_r10 _ (fun _ _ _ _ _ h => h) _ _ R GA GB (wr.heap.size + 1) l.length k _ ⟨sw,ss + s0,sh + h0⟩ (baF l k) _ hM hkb hlt1 h8' p1 p2 (by omega) p3 (by have := hI.out.gb.lt; omega) ?_
    obtain ⟨hJ1,hc1,hT1⟩ := hN _ rfl
    generalize World.setCells (World.setCells (World.drew wz) GA ((k + 1) * 3) (suL ⟨sw,ss + s0,sh + h0⟩)) GB ((k + 1) * 3) (suL ⟨sw,ss + s0,sh + h0⟩) = w3 at *
    have hJ2 : Hid (MeI w R GA GB (.slice (some ⟨b,o,none⟩) l.length cap) l (k + 1) w3) := by
     have := hJ1
     rw [hn1.out _ (by decide) hx0] at this
     exact this
    clear hJ1 hM hN hW hn1 hn2 hAx hBy hBg hT1 hI c0 c1 c2 c3 c4 c5 c6 c7 a0 a1 a2 r1
    unfold fr12
    go_wp2_with fail
    go_roundw
    case rel => exact ⟨k + 1,by omega,by simp,hJ2⟩
    case measure => simp [intOf]; omega
   ·have e3' : (k0 != 3) = true := by simpa using e3
    by_cases e2 : k0 = 2
    ·subst e2
     go_wp2_with fail
     have hx0 : (⟨sw + w0,ss + s0,sh + h0⟩ : Su) = suAdd ⟨sw,ss,sh⟩ ⟨2,f0,t0,w0,s0,h0,q0,y0⟩ := by simp [suAdd]
     obtain ⟨hM,hN⟩ := hW.out _ _ _ hx0 _ rfl
     generalize (wr.alloc (.cells #[.int .i64 2,.int .i64 f0,.int .i64 t0,.int .i64 w0,.int .i64 s0,.int .i64 h0,.int .i64 q0,.bool y0] 68)).alloc (.cells #[.int .i64 (sw + w0),.int .i64 (ss + s0),.int .i64 (sh + h0)] 182) = wz at *
     refine me_r10 _ (fun _ _ _ _ _ h => h) _ _ R GA GB (wr.heap.size + 1) l.length k _ ⟨sw + w0,ss + s0,sh + h0⟩ (baF l k) _ hM hkb hlt1 h8' p1 p2 (by omega) p3 (by have := hI.out.gb.lt; omega) ?_
     obtain ⟨hJ1,hc1,hT1⟩ := hN _ rfl
     generalize World.setCells (World.setCells (World.drew wz) GA ((k + 1) * 3) (suL ⟨sw + w0,ss + s0,sh + h0⟩)) GB ((k + 1) * 3) (suL ⟨sw + w0,ss + s0,sh + h0⟩) = w3 at *
     have hM3 : Hid (MeS R GA GB (wr.heap.size + 1) l.length k (.slice (some ⟨b,o,none⟩) l.length cap) ⟨sw + w0,ss + s0,sh + h0⟩ (baF l k) (World.drew w3)) := hJ1.drew.mes (upK_len _ _ _) (by rw [List.length_set,upK_len]) (by rw [List.getElem?_set_ne (by omega)]; exact upK_at (by omega) (Nat.le_refl _)) hT1
     have hJ2 : Hid (MeI w R GA GB (.slice (some ⟨b,o,none⟩) l.length cap) l (k + 1) ((World.drew w3).setCells GB ((k + 1) * 3) (suL (baF l k)))) := by
      have := hJ1.drew.setB (p := k + 1) (by rw [List.length_set,upK_len]; omega) (baF l k) hgr.out.2.1 p1 p3
      rw [hn2.out _ (by first | rfl | trivial)] at this
      exact this
     have hT5 : GB ≠ wr.heap.size + 1 := by have := hI.out.gb.lt; omega
     clear hJ1 hM hN hW hn1 hn2 hAx hBy hBg hT1 hI c0 c1 c2 c3 c4 c5 c6 c7 a0 a1 a2 r1
     unfold fr12
     go_wp2_with fail
     refine me_r12 _ (fun _ _ _ _ _ h => h) _ _ R GA GB (wr.heap.size + 1) l.length k _ ⟨sw + w0,ss + s0,sh + h0⟩ (baF l k) _ hM3.out hkb hlt1 h8' p1 p2 (by omega) p3 hT5 ?_
     generalize World.setCells (World.drew w3) GB ((k + 1) * 3) (suL (baF l k)) = w4 at *
     clear hM3 hc1
     unfold fr12
     go_wp2_with fail
     go_roundw
     case rel => exact ⟨k + 1,by omega,by simp,hJ2⟩
     case measure => simp [intOf]; omega
    ·have e2' : (k0 == 2) = false := by simpa using e2
     go_wp2_with fail
     have hx0 : (⟨sw + w0,ss + s0,sh + h0⟩ : Su) = suAdd ⟨sw,ss,sh⟩ ⟨k0,f0,t0,w0,s0,h0,q0,y0⟩ := by simp [suAdd,e3]
     obtain ⟨hM,hN⟩ := hW.out _ _ _ hx0 _ rfl
     generalize (wr.alloc (.cells #[.int .i64 k0,.int .i64 f0,.int .i64 t0,.int .i64 w0,.int .i64 s0,.int .i64 h0,.int .i64 q0,.bool y0] 68)).alloc (.cells #[.int .i64 (sw + w0),.int .i64 (ss + s0),.int .i64 (sh + h0)] 182) = wz at *
     refine me_r10 _ (fun _ _ _ _ _ h => h) _ _ R GA GB (wr.heap.size + 1) l.length k _ ⟨sw + w0,ss + s0,sh + h0⟩ (baF l k) _ hM hkb hlt1 h8' p1 p2 (by omega) p3 (by have := hI.out.gb.lt; omega) ?_
     obtain ⟨hJ1,hc1,hT1⟩ := hN _ rfl
     generalize World.setCells (World.setCells (World.drew wz) GA ((k + 1) * 3) (suL ⟨sw + w0,ss + s0,sh + h0⟩)) GB ((k + 1) * 3) (suL ⟨sw + w0,ss + s0,sh + h0⟩) = w3 at *
     have hJ2 : Hid (MeI w R GA GB (.slice (some ⟨b,o,none⟩) l.length cap) l (k + 1) w3) := by
      have := hJ1
      rw [hn1.out _ e2 hx0] at this
      exact this
     clear hJ1 hM hN hW hn1 hn2 hAx hBy hBg hT1 hI c0 c1 c2 c3 c4 c5 c6 c7 a0 a1 a2 r1
     unfold fr12
     go_wp2_with fail
     go_roundw
     case rel => exact ⟨k + 1,by omega,by simp,hJ2⟩
     case measure => simp [intOf]; omega
  ·have hkn : k = l.length := by omega
   have hge : ¬ (k : Int) < l.length := by omega
   have hJ : MeI w R GA GB (.slice a l.length cap) l l.length wr := by have := hI.out; rw [hkn] at this; exact this
   have hres := hJ.res
   have hr := hJ.r
   clear hI hSh h
   have hend : Hid (MeEnd (.slice a l.length cap) l w (.returned (.agg (ruA (.slice a l.length cap) (.slice (some ⟨GA,0,none⟩) (l.length + 1) (l.length + 1)) (.slice (some ⟨GB,0,none⟩) (l.length + 1) (l.length + 1))))) (wr.setRow w.heap.size (ruA (.slice a l.length cap) (.slice (some ⟨GA,0,none⟩) (l.length + 1) (l.length + 1)) (.slice (some ⟨GB,0,none⟩) (l.length + 1) (l.length + 1))))) := by
    have ht := Turns.setRow (X := fun k => k = w.heap.size) wr rfl (ruA (.slice a l.length cap) (.slice (some ⟨GA,0,none⟩) (l.length + 1) (l.length + 1)) (.slice (some ⟨GB,0,none⟩) (l.length + 1) (l.length + 1)))
    obtain ⟨g1,g2,g3⟩ := hgr.out
    have hA := (hJ.ga.turns ht (by omega)).recs (n := l.length + 1) (cap := l.length + 1) (by rw [upK_len]; exact Nat.le_refl _) (Nat.le_refl _)
    have hB := (hJ.gb.turns ht (by omega)).recs (n := l.length + 1) (cap := l.length + 1) (by rw [upK_len]; exact Nat.le_refl _) (Nat.le_refl _)
    rw [List.take_of_length_le (by rw [upK_len]; exact Nat.le_refl _)] at hA hB
    exact ⟨_,_,rfl,hA,hB,hJ.low.trans (ht.below hJ.low.size (fun k hk => by omega))⟩
   clear hJ
   go_wp2_with (first | (refine wpList_load_row rfl 133 _ rfl R rfl 133 _ (0,0) _ hr Tryz.underlying133 rfl (info50 _ _ _) ?_) | (refine wpList_store_row rfl 133 _ _ rfl w.heap.size (ruA (.slice a l.length cap) (.slice (some ⟨GA,0,none⟩) (l.length + 1) (l.length + 1)) (.slice (some ⟨GB,0,none⟩) (l.length + 1) (l.length + 1))) rfl rfl 133 _ hres (info50 _ _ _) rfl (by kernel_rfl) ?_))
   exact bodyPost_ret (results_cell_row rfl _ _ w.heap.size 133 _ (0,0) _ rfl (setRow_heap _ _ _ _ _ _ hres) Tryz.underlying133 rfl (info50 _ _ _)) rfl hend.out
end Go.Proofs.YtfiekhephkpdjaaGreatDoor

namespace Go.Proofs.YtfiekhephkpdjaaGreatDoor
open Go.RowKit Go.Shelf


def dmB (p q : St) (d : Int) : Bool := decide (p.n < q.a) && raB (lnS p q) d q.l
def dmC (r c : Int) : Int := 10 + (r * r).tdiv 1000 + c
def dmV (p q : St) (d : Int) : Int := if dmB p q d = true then dmC (raR (lnS p q) d q.l) q.c * dmC (raR (lnS p q) d q.l) q.c + (if (p.y && q.y) = true then 10000 else 0) else 0
structure StOk (x : St) : Prop where
 a : x.a ≤ 8192
 n : x.n ≤ 8192
 e : SuOk x.e
 b : SuOk x.b
 c : 0 ≤ x.c ∧ x.c ≤ 4095
 t : -17592186044416 ≤ x.t ∧ x.t ≤ 17592186044416
end Go.Proofs.YtfiekhephkpdjaaGreatDoor

namespace Go.Proofs.YtfiekhephkpdjaaGreatDoor
open Go.RowKit Go.Shelf
set_option maxRecDepth 100000
set_option maxHeartbeats 2000000

def rfE (l : List It) (ss : List Sl) (r : Sl) : Int := if ckL l ≠ 0 then ckL l else if ckS ss r ≠ 0 then ckS ss r else if lpB l = true then 9 else 0
theorem lrefuse_any (v vs : Value) (l : List It) (ss : List Sl) (r : Sl) (hl : ss.length ≤ 9223372036854775807) (w : World) (hS : ItsAt w v l) (hV : SlsAt w vs ss) :
  Calls Tryz.prog 61 #[v,vs,.agg (slL r).toArray] w fun e w' => e = .returned (.int .i64 (rfE l ss r)) ∧ Below w.heap.size w w' := by
 have hB := (Below.refl w.heap.size w).alloc (Nat.le_refl _) (.cells #[.int .i64 r.x,.int .i64 r.w] 32)
 have hS1 := hS.below hB (Nat.le_refl _)
 have hV1 := hV.below hB (Nat.le_refl _)
 have c0 : (w.alloc (.cells #[.int .i64 r.x,.int .i64 r.w] 32)).cell? ⟨w.heap.size,0,none⟩ = some (.int .i64 r.x) := by rw [Lib.cell_of_heap (World.alloc_heap_new w _)]; rfl
 have c1 : (w.alloc (.cells #[.int .i64 r.x,.int .i64 r.w] 32)).cell? ⟨w.heap.size,1,none⟩ = some (.int .i64 r.w) := by rw [Lib.cell_of_heap (World.alloc_heap_new w _)]; rfl
 have hcl : Hid (∀ W,Below (w.alloc (.cells #[.int .i64 r.x,.int .i64 r.w] 32)).heap.size (w.alloc (.cells #[.int .i64 r.x,.int .i64 r.w] 32)) W → W.cell? ⟨w.heap.size,0,none⟩ = some (.int .i64 r.x) ∧ W.cell? ⟨w.heap.size,1,none⟩ = some (.int .i64 r.w)) := fun W hW => ⟨(hW.cell (by show w.heap.size < _; simp)).trans c0,(hW.cell (by show w.heap.size < _; simp)).trans c1⟩
 have hC : Hid (Calls Tryz.prog 69 #[v] (w.alloc (.cells #[.int .i64 r.x,.int .i64 r.w] 32)) fun e w' => e = .returned (.int .i64 (ckL l)) ∧ Below (w.alloc (.cells #[.int .i64 r.x,.int .i64 r.w] 32)).heap.size (w.alloc (.cells #[.int .i64 r.x,.int .i64 r.w] 32)) w') := icheck_any v l _ hS1
 have hF : Hid (∀ W,Below (w.alloc (.cells #[.int .i64 r.x,.int .i64 r.w] 32)).heap.size (w.alloc (.cells #[.int .i64 r.x,.int .i64 r.w] 32)) W → Calls Tryz.prog 26 #[vs,.agg #[.int .i64 r.x,.int .i64 r.w]] W fun e w' => e = .returned (.int .i64 (ckS ss r)) ∧ Below W.heap.size W w') := fun W hW => fcheck_any vs ss r hl W (hV1.below hW (Nat.le_refl _))
 have hL : Hid (l.length ≤ 8192 → ∀ W,Below (w.alloc (.cells #[.int .i64 r.x,.int .i64 r.w] 32)).heap.size (w.alloc (.cells #[.int .i64 r.x,.int .i64 r.w] 32)) W → Calls Tryz.prog 21 #[v] W fun e w' => e = .returned (.bool (lpB l)) ∧ Below W.heap.size W w') := fun h8 W hW => leaps_any v l (by omega) W (hS1.below hW (Nat.le_refl _))
 have h8 : Hid (ckL l = 0 → l.length ≤ 8192) := ck_len
 obtain ⟨a,cap,rfl,-⟩ := hS.ex
 obtain ⟨a2,cap2,rfl,-⟩ := hV.ex
 have hBh : Hid (Below w.heap.size w (w.alloc (.cells #[.int .i64 r.x,.int .i64 r.w] 32))) := hB
 show Calls Tryz.prog 61 #[.slice a l.length cap,.slice a2 ss.length cap2,.agg #[.int .i64 r.x,.int .i64 r.w]] w _
 unfold rfE
 clear hS hV hS1 hV1 hB c0 c1
 generalize ckS ss r = c2 at *
 by_cases h1 : ckL l = 0
 ·have hL2 : Hid (∀ W,Below (w.alloc (.cells #[.int .i64 r.x,.int .i64 r.w] 32)).heap.size (w.alloc (.cells #[.int .i64 r.x,.int .i64 r.w] 32)) W → Calls Tryz.prog 21 #[.slice a l.length cap] W fun e w' => e = .returned (.bool (lpB l)) ∧ Below W.heap.size W w') := fun W hW => hL.out (h8.out h1) W hW
  rw [if_neg (by simpa using h1)]
  have q1 : (ckL l != 0) = false := by rw [h1]; rfl
  clear hL h8 h1
  generalize ckL l = c1 at *
  by_cases h2 : c2 = 0
  ·rw [if_neg (by simpa using h2)]
   have q2 : (c2 != 0) = false := by rw [h2]; rfl
   clear h2
   cases hlp : lpB l with
   | true =>
    rw [hlp] at hL2
    rw [if_pos rfl]
    clear hlp
    go_enter Tryz.func61,Tryz.ntmps61
    go_wp2_with fail
    generalize w.alloc (.cells #[.int .i64 r.x,.int .i64 r.w] 32) = wz at *
    go_wp2_with (first | (go_at_call 69; refine hC.out.mono ?_; rintro e w1 ⟨rfl,hb1⟩; obtain ⟨x1,x2⟩ := hcl.out w1 hb1) | (go_at_call 26; refine (hF.out w1 hb1).mono ?_; rintro e w2 ⟨rfl,hb2⟩; have hb12 := hb1.trans (hb2.mono hb1.size)) | (go_at_call 21; refine (hL2.out w2 hb12).mono ?_; rintro e w3 ⟨rfl,hb3⟩))
    go_ret
    have hbz := hBh.out.trans (hb12.mono hBh.out.size)
    exact ⟨rfl,hbz.trans (hb3.mono hbz.size)⟩
   | false =>
    rw [hlp] at hL2
    rw [if_neg (by decide)]
    clear hlp
    go_enter Tryz.func61,Tryz.ntmps61
    go_wp2_with fail
    generalize w.alloc (.cells #[.int .i64 r.x,.int .i64 r.w] 32) = wz at *
    go_wp2_with (first | (go_at_call 69; refine hC.out.mono ?_; rintro e w1 ⟨rfl,hb1⟩; obtain ⟨x1,x2⟩ := hcl.out w1 hb1) | (go_at_call 26; refine (hF.out w1 hb1).mono ?_; rintro e w2 ⟨rfl,hb2⟩; have hb12 := hb1.trans (hb2.mono hb1.size)) | (go_at_call 21; refine (hL2.out w2 hb12).mono ?_; rintro e w3 ⟨rfl,hb3⟩))
    go_ret
    have hbz := hBh.out.trans (hb12.mono hBh.out.size)
    exact ⟨rfl,hbz.trans (hb3.mono hbz.size)⟩
  ·rw [if_pos h2]
   have q2 : (c2 != 0) = true := by simpa using h2
   clear h2
   go_enter Tryz.func61,Tryz.ntmps61
   go_wp2_with fail
   generalize w.alloc (.cells #[.int .i64 r.x,.int .i64 r.w] 32) = wz at *
   go_wp2_with (first | (go_at_call 69; refine hC.out.mono ?_; rintro e w1 ⟨rfl,hb1⟩; obtain ⟨x1,x2⟩ := hcl.out w1 hb1) | (go_at_call 26; refine (hF.out w1 hb1).mono ?_; rintro e w2 ⟨rfl,hb2⟩; have hb12 := hb1.trans (hb2.mono hb1.size)))
   go_ret
   exact ⟨rfl,hBh.out.trans (hb12.mono hBh.out.size)⟩
 ·rw [if_pos h1]
  have q1 : (ckL l != 0) = true := by simpa using h1
  clear hL h8 h1 hF
  generalize ckL l = c1 at *
  go_enter Tryz.func61,Tryz.ntmps61
  go_wp2_with fail
  generalize w.alloc (.cells #[.int .i64 r.x,.int .i64 r.w] 32) = wz at *
  go_wp2_with (go_at_call 69; refine hC.out.mono ?_; rintro e w1 ⟨rfl,hb1⟩)
  go_ret
  exact ⟨rfl,hBh.out.trans (hb1.mono hBh.out.size)⟩
structure RuAt (W : World) (v va vb : Value) (l : List It) : Prop where
 i : ItsAt W v l
 a : SusAt W va (alL l)
 b : SusAt W vb (baL l)
theorem RuAt.below {W W' : World} {v va vb : Value} {l : List It} (h : RuAt W v va vb l) {n : Nat} (hb : Below n W W') (hn : W.heap.size ≤ n) : RuAt W' v va vb l := ⟨h.i.below hb hn,h.a.below hb hn,h.b.below hb hn⟩
theorem sus_at {W : World} {v : Value} {f : Nat → Su} {n : Nat} (h : SusAt W v (upK n f n)) : ∃ g o cap,v = .slice (some ⟨g,o,none⟩) (n + 1) cap ∧ g < W.heap.size ∧ n + 1 ≤ cap ∧ ∀ i,i ≤ n → W.rangeAt g (o + i * 3) (suL (f i)) := by
 obtain ⟨a,cap,rfl,h2⟩ := h.ex
 have hle := h.le _ _ _ rfl
 rw [upK_len] at hle
 rcases h2 with h2 | ⟨b,o,rfl,hb,hc⟩
 ·have := upK_len n f n; rw [h2] at this; simp at this
 ·refine ⟨b,o,cap,by rw [upK_len],hb,hle,fun i hi j v hv => ?_⟩
  obtain ⟨h1,e⟩ := List.getElem?_eq_some_iff.1 (upK_at (n := n) (f := f) (k := n) hi hi)
  exact hc i h1 j v (by rw [e]; exact hv)
end Go.Proofs.YtfiekhephkpdjaaGreatDoor

namespace Go.Proofs.YtfiekhephkpdjaaGreatDoor
open Go.RowKit Go.Shelf
set_option maxRecDepth 100000
set_option maxHeartbeats 2000000

def st0 : St := ⟨0,0,su0,su0,0,false,false,0⟩
def bgS (l : List It) : St := ⟨0,sk l 0,su0,alF l (sk l 0),0,false,false,0⟩
theorem info91 (p : St) : (Tryz.prog.info? 184).map (·.size) = some (stL p).toArray.size := by show _ = some 12; kernel_rfl
theorem stL_all (p : St) : (stL p).toArray.all (·.oneCell') = true := all_oneCell_toArray (stL_one p)
theorem sk_len {l : List It} : sk l 0 ≤ l.length := (sk_le (l := l) (l.length + 1) 0 (Nat.zero_le _)).2
theorem beginning_any (v va vb : Value) (l : List It) (h : ckL l = 0) (w : World) (hR : RuAt w v va vb l) :
  Calls Tryz.prog 98 #[.agg (ruA v va vb)] w fun e w' => e = .returned (.agg (stL (bgS l)).toArray) ∧ Below w.heap.size w w' := by
 have h8 := ck_len h
 obtain ⟨a0,c0,rfl,-⟩ := hR.i.ex
 obtain ⟨g,o,cap,rfl,hg,-,hrg⟩ := sus_at hR.a
 obtain ⟨a2,c2,rfl,-⟩ := hR.b.ex
 have hsk := sk_len (l := l)
 have hb0 := below2 w (.cells #[.slice a0 l.length c0,.slice (some ⟨g,o,none⟩) (l.length + 1) cap,.slice a2 (baL l).length c2] 133) (.cells #[.int .i64 0,.int .i64 0,.int .i64 0,.int .i64 0,.int .i64 0,.int .i64 0,.int .i64 0,.int .i64 0,.int .i64 0,.bool false,.bool false,.int .i64 0] 184)
 have hr2 := alloc2_heap w (.cells #[.slice a0 l.length c0,.slice (some ⟨g,o,none⟩) (l.length + 1) cap,.slice a2 (baL l).length c2] 133) (.cells #[.int .i64 0,.int .i64 0,.int .i64 0,.int .i64 0,.int .i64 0,.int .i64 0,.int .i64 0,.int .i64 0,.int .i64 0,.bool false,.bool false,.int .i64 0] 184)
 have hr1 : ((w.alloc (.cells #[.slice a0 l.length c0,.slice (some ⟨g,o,none⟩) (l.length + 1) cap,.slice a2 (baL l).length c2] 133)).alloc (.cells #[.int .i64 0,.int .i64 0,.int .i64 0,.int .i64 0,.int .i64 0,.int .i64 0,.int .i64 0,.int .i64 0,.int .i64 0,.bool false,.bool false,.int .i64 0] 184)).heap[w.heap.size]? = some (.cells #[.slice a0 l.length c0,.slice (some ⟨g,o,none⟩) (l.length + 1) cap,.slice a2 (baL l).length c2] 133 (0,0)) := (Below.heap_alloc _ _ _ (by simp)).trans (World.alloc_heap_new w _)
 have hbg : Hid (Calls Tryz.prog 62 #[.slice a0 l.length c0] ((w.alloc (.cells #[.slice a0 l.length c0,.slice (some ⟨g,o,none⟩) (l.length + 1) cap,.slice a2 (baL l).length c2] 133)).alloc (.cells #[.int .i64 0,.int .i64 0,.int .i64 0,.int .i64 0,.int .i64 0,.int .i64 0,.int .i64 0,.int .i64 0,.int .i64 0,.bool false,.bool false,.int .i64 0] 184)) fun e w' => e = .returned (.int .i64 (sk l 0 : Nat)) ∧ Below ((w.alloc (.cells #[.slice a0 l.length c0,.slice (some ⟨g,o,none⟩) (l.length + 1) cap,.slice a2 (baL l).length c2] 133)).alloc (.cells #[.int .i64 0,.int .i64 0,.int .i64 0,.int .i64 0,.int .i64 0,.int .i64 0,.int .i64 0,.int .i64 0,.int .i64 0,.bool false,.bool false,.int .i64 0] 184)).heap.size ((w.alloc (.cells #[.slice a0 l.length c0,.slice (some ⟨g,o,none⟩) (l.length + 1) cap,.slice a2 (baL l).length c2] 133)).alloc (.cells #[.int .i64 0,.int .i64 0,.int .i64 0,.int .i64 0,.int .i64 0,.int .i64 0,.int .i64 0,.int .i64 0,.int .i64 0,.bool false,.bool false,.int .i64 0] 184)) w') := begin_any _ l (by omega) _ (hR.i.below hb0 (Nat.le_refl _))
 have hres : Hid (∀ W,Below ((w.alloc (.cells #[.slice a0 l.length c0,.slice (some ⟨g,o,none⟩) (l.length + 1) cap,.slice a2 (baL l).length c2] 133)).alloc (.cells #[.int .i64 0,.int .i64 0,.int .i64 0,.int .i64 0,.int .i64 0,.int .i64 0,.int .i64 0,.int .i64 0,.int .i64 0,.bool false,.bool false,.int .i64 0] 184)).heap.size ((w.alloc (.cells #[.slice a0 l.length c0,.slice (some ⟨g,o,none⟩) (l.length + 1) cap,.slice a2 (baL l).length c2] 133)).alloc (.cells #[.int .i64 0,.int .i64 0,.int .i64 0,.int .i64 0,.int .i64 0,.int .i64 0,.int .i64 0,.int .i64 0,.int .i64 0,.bool false,.bool false,.int .i64 0] 184)) W → W.heap[w.heap.size + 1]? = some (.cells (stL st0).toArray 184 (0,0)) ∧ W.cell? ⟨w.heap.size,1,none⟩ = some (.slice (some ⟨g,o,none⟩) (l.length + 1) cap) ∧ Below w.heap.size w W ∧ W.rangeAt g (o + sk l 0 * 3) (suL (alF l (sk l 0)))) := fun W hW => by
  have hb := hb0.trans (hW.mono hb0.size)
  refine ⟨(hW.block _ (by simp)).trans hr2,?_,hb,fun j u hu => (hb.cell hg).trans (hrg _ hsk j u hu)⟩
  rw [Lib.cell_of_heap ((hW.block _ (by simp; omega)).trans hr1)]; rfl
 have e : bgS l = ⟨0,sk l 0,su0,alF l (sk l 0),0,false,false,0⟩ := rfl
 rw [e]
 have hks : ((sk l 0 : Nat) : Int) < (l.length : Int) + 1 := by omega
 clear hR hb0 hr1 hr2 hrg h h8 e
 generalize alF l (sk l 0) = x at *
 generalize sk l 0 = k at *
 show Calls Tryz.prog 98 #[.agg #[.slice a0 l.length c0,.slice (some ⟨g,o,none⟩) (l.length + 1) cap,.slice a2 (baL l).length c2]] w _
 go_enter Tryz.func98,Tryz.ntmps98
 go_wp2_with fail
 generalize (w.alloc (.cells #[.slice a0 l.length c0,.slice (some ⟨g,o,none⟩) (l.length + 1) cap,.slice a2 (baL l).length c2] 133)).alloc (.cells #[.int .i64 0,.int .i64 0,.int .i64 0,.int .i64 0,.int .i64 0,.int .i64 0,.int .i64 0,.int .i64 0,.int .i64 0,.bool false,.bool false,.int .i64 0] 184) = wz at *
 go_wp2_with (first | (go_at_call 62; refine hbg.out.mono ?_; rintro e w2 ⟨rfl,hb2⟩; obtain ⟨q1,q2,q3,q4⟩ := hres.out w2 hb2; have d0 := q4 0 _ rfl; have d1 := q4 1 _ rfl; have d2 := q4 2 _ rfl; simp only [Nat.add_zero] at d0; have q3h : Hid (Below w.heap.size w w2) := q3; clear q3 q4 hb2 hres hbg) | (refine wpList_store_row rfl 184 _ _ rfl (w.heap.size + 1) (stL ⟨0,k,su0,x,0,false,false,0⟩).toArray rfl rfl 184 _ q1 (info91 _) rfl (stL_all _) ?_))
 exact bodyPost_ret (results_cell_row rfl _ _ (w.heap.size + 1) 184 _ (0,0) _ rfl (setRow_heap _ _ _ _ _ _ q1) Tryz.underlying184 rfl (info91 _)) rfl ⟨rfl,q3h.out.trans ((Turns.setRow (X := fun k => k = w.heap.size + 1) _ rfl _).below q3h.out.size (fun k hk => by omega))⟩
end Go.Proofs.YtfiekhephkpdjaaGreatDoor
