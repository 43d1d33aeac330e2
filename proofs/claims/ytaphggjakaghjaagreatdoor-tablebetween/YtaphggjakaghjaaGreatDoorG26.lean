/-
  What is proved here: how wide a cell's text is, at least and at most, as extent tells it.
  What is proved here: how wide the columns of a table are.
  What is proved here: the columns of a table, one round a column; how they are gathered.
-/
import Derived.Test.YtaphggjakaghjaaGreatDoorG25
import Derived.BigRegion
import Derived.BigQuiet
namespace Go.Proofs.YtaphggjakaghjaaGreatDoor
open Go.RowKit Go.Shelf
set_option maxRecDepth 100000
set_option maxHeartbeats 4000000
attribute [local go_sem] Oper.semAt_some wide_fn wide_depth

theorem info55 : (Tryz.prog.info? 74).map (·.size) = some 2 := by kernel_rfl
theorem cmass_any {t : ByteArray} (h : cellB t = true) (sv : Value) (w : World) (hA : PaAt w (cellPa t sv)) : Calls Tryz.prog 99 #[paV (cellPa t sv)] w fun e w' => ∃ v,e = .returned (.tuple #[v,.int .i64 0]) ∧ RecAt 6 msL w' v (cm t) ∧ ((cm t = [] ∧ ∃ c,v = .slice none 0 c) ∨ ∃ b o c,v = .slice (some ⟨b,o,none⟩) (cm t).length c ∧ (cm t).length ≤ c ∧ c ≤ 9223372036854775807) ∧ (∀ g,v.ownBlock = some g → g < w'.heap.size) ∧ Below w.heap.size w w' := by
 refine (masses_any _ w hA).mono ?_
 rintro e w' ⟨⟨v,rfl,hv⟩,hb⟩
 rw [cell_chk h] at hv ⊢
 rcases hv with ⟨h,_⟩ | ⟨_,h⟩
 ·exact absurd rfl h
 ·have hr : RecAt 6 msL w' v (cm t) := rec_of_row msL_len (mss_len _).symm h
  refine ⟨v,rfl,hr,?_,fun g hg => (h.lt g hg).2,hb⟩
  have hn : num (cellPa t sv).t = (cm t).length := (mss_len _).symm
  rcases h.2 with ⟨rfl,h0⟩ | ⟨g,cap,cur,rfl,_,_,h1,h2,_⟩
  ·exact .inl ⟨List.eq_nil_of_length_eq_zero (by omega),0,rfl⟩
  ·exact .inr ⟨g,0,cap,by rw [hn],by omega,by unfold maxLen at h2; omega⟩

theorem extent_any (t : ByteArray) (h : cellB t = true) (w : World) : Calls Tryz.prog 71 #[.string t] w fun e w' => e = .returned (.agg #[.int .i64 (exS (cm t)),.int .i64 (exM (cm t))]) ∧ Below w.heap.size w w' := by
 have hF := cm_flat h
 have hsz := (cell_get h).1
 have hB0 := (Below.refl w.heap.size w).alloc (Nat.le_refl _) (.cells #[.int .i64 0,.int .i64 0] 74)
 have hg2 : (w.alloc (.cells #[.int .i64 0,.int .i64 0] 74)).heap[w.heap.size]? = some (.cells #[.int .i64 0,.int .i64 0] 74) := World.alloc_heap_new w _
 have hs0 : (w.alloc (.cells #[.int .i64 0,.int .i64 0] 74)).heap.size = w.heap.size + 1 := World.size_alloc _ _
 have hce := cell_any t (by omega) (w.alloc (.cells #[.int .i64 0,.int .i64 0] 74))
 have hma := fun sv W hA => cmass_any h sv W hA
 generalize cm t = l at *
 refine callsIn_wide (n := 0).1 ?_
 refine callsIn_of_wp_marks Tryz.func71 rfl trivial ?_ rfl
 simp only [Tryz.ntmps71,List.size_toArray,List.length_cons,List.length_nil,Nat.reduceAdd,Nat.reduceSub,Array.replicate_succ,Array.replicate_zero,List.push_toArray,List.append_toArray,List.nil_append,List.cons_append]
 gi_wp2_with (first | (gi_at_call 61; refine (callsIn_wide.2 hce).mono ?_; rintro e w1 ⟨sv,rfl,hA1,b1⟩; have hg21 := (b1.block w.heap.size (by omega)).trans hg2; have hB1 := hB0.trans (b1.mono hB0.size)) | (gi_at_call 99; refine (callsIn_wide.2 (hma sv w1 hA1)).mono ?_; rintro e w2 ⟨v,rfl,hR2,hv,hown,b2⟩; obtain ⟨aa,cap,hvv,_⟩ := hR2.ex; subst hvv; have hg22 := (b2.block w.heap.size (by have := b1.size; omega)).trans hg21; have hB2 := hB1.trans (b2.mono hB1.size)) | (gi_at_call 100; refine (callsIn_wide.2 (words_any _ _ _ _)).mono ?_; rintro e w3 ⟨rfl,rfl⟩))
 have hs2 := b2.size
 have hs1 := b1.size
 obtain ⟨enc,hgv,hrc⟩ := words_gives (w2.heap.size + 1) (.slice aa l.length cap) l hF.1 hv
 obtain ⟨w4,hw4⟩ : ∃ w4,(w2.alloc (.cells #[.int .i64 0] 3)).alloc (.cells #[.slice aa l.length cap] 143) = w4 := ⟨_,rfl⟩
 have hs4 : w4.heap.size = w2.heap.size + 2 := by rw [← hw4]; simp
 have hT4 : Turns Noth w2 w4 := by rw [← hw4]; exact (Turns.alloc _ _ _).trans (Turns.alloc _ _ _)
 have hb5 : w4.heap[w2.heap.size]? = some (.cells #[.int .i64 0] 3) := by rw [← hw4]; exact (Below.heap_alloc _ _ _ (by simp)).trans (World.alloc_heap_new w2 _)
 have hbt : w4.heap[w2.heap.size + 1]? = some (.cells #[.slice aa l.length cap] 143) := by rw [← hw4]; have := World.alloc_heap_new (w2.alloc (.cells #[.int .i64 0] 3)) (.cells #[.slice aa l.length cap] 143); rwa [World.size_alloc] at this
 have hg24 : w4.heap[w.heap.size]? = some (.cells #[.int .i64 0,.int .i64 0] 74) := (hT4.block _ (by omega) (fun h => h)).trans hg22
 have hR4 : RecAt 6 msL w4 (.slice aa l.length cap) l := rec_any hR2 hT4 (fun _ _ h => h)
 have hown4 : ∀ g,(Value.slice aa l.length cap).ownBlock = some g → g < w2.heap.size := hown
 have hB4 : Below w.heap.size w w4 := hB2.trans (hT4.below (by omega) (fun _ h => h.elim))
 have hnat : ∀ (W : World) (u : Value) (f n : Nat),f ≤ n → n ≤ l.length → RecAt 6 msL W u (cut l f n) → Calls Tryz.prog 101 #[u] W fun e w' => e = .returned (.int .i64 (runN l f (n - f))) ∧ Below W.heap.size W w' := fun W u f n h1 h2 hr => by
  have := gnatural_any u (cut l f n) (by rw [cut_len h2]; have := hF.1; omega) W hr
  rw [cut_nat hF h1 h2] at this
  exact this
 have hall : ∀ W : World,RecAt 6 msL W (.slice aa l.length cap) l → Calls Tryz.prog 101 #[.slice aa l.length cap] W fun e w' => e = .returned (.int .i64 (exM l)) ∧ Below W.heap.size W w' := fun W hr => by
  have := gnatural_any _ l (by have := hF.1; omega) W hr
  rw [(flat_nat hF).2] at this
  exact this
 have hend := wmk_all l
 have hwl := wds_le l
 rw [hw4]
 clear hma hce hA1 hg2 hg21 hg22 hR2 hv hown hw4
 refine wp_range (gf := 137) (lb := #[.pointer (some ⟨w2.heap.size + 1,0,none⟩)]) rfl (enters_of Tryz.func137 (by kernel_rfl) rfl) hgv (fun _ => rfl)
  (fun j X W => Base w4 (fun k => k = w2.heap.size) X W ∧ W.heap[w2.heap.size]? = some (.cells #[.int .i64 (wmk l j)] 3))
  (fun _ _ _ _ => False)
  (fun a' j X W => (Base w4 (fun k => k = w2.heap.size) X W ∧ W.heap[w2.heap.size]? = some (.cells #[.int .i64 (wmk l j)] 3)) ∧
   a' = { tmps := #[.string t,undef,.pointer (some ⟨w.heap.size,0,none⟩),.slice aa l.length cap,.int .i64 0,.pointer (some ⟨w2.heap.size,0,none⟩),enc j,.tuple #[.slice aa l.length cap,.int .i64 0],.string t,paV (cellPa t sv),.tuple #[.slice aa l.length cap,.int .i64 0],.slice aa l.length cap,.int .i64 0,.slice aa l.length cap,.func (.func 137) #[] #[.pointer (some ⟨w2.heap.size + 1,0,none⟩)],enc j,undef,undef,undef,undef,undef,undef,undef,undef],defers := [] })
  (steady_box (by omega) (fun j => .cells #[.int .i64 (wmk l j)] 3)) (fun _ => steady_never) (fun a' => (steady_box (by omega) (fun j => .cells #[.int .i64 (wmk l j)] 3)).and (fun _ _ _ _ _ h _ _ => h)) ?hR ⟨Base.start _ _,hb5⟩ ?assign ?body ?done ?stop
 case hR =>
  rintro i X W ⟨hb,_⟩
  refine ⟨(hb.turns.block _ (by omega) (by omega)).trans hbt,rec_any hR4 hb.turns (fun g hg e => by have := hown4 g hg; omega)⟩
 case assign =>
  rintro lo j X W K hj hI hK
  gi_wp2
  exact hK _ _ (Keeps.refl _ _) ⟨hI,rfl⟩
 case body =>
  rintro lo j X a' W hj ⟨⟨hb,hbx⟩,rfl⟩
  have hRj := rec_any hR4 hb.turns (fun g hg e => by have := hown4 g hg; omega)
  have hcj := hrc W hRj j hj
  have hle := hwl _ (List.getElem_mem hj)
  have hcall := hnat W.drew (enc j) _ _ hle.1 hle.2 (rec_any hcj (Turns.drew Noth W) (fun _ _ h => h))
  have hsz4 := hb.turns.size
  have hlt := (Array.getElem?_eq_some_iff.1 hbx).1
  gi_wp2
  refine ext_r5 _ (fun _ _ _ _ _ h => h) _ _ _ _ _ _ _ _ _ _ _ _ _ _ _ _ _ _ _ _ _ _ _ _ _ _ hbx hcall ?_
  intro V' hV
  gi_wp2
  have hTV : Turns Noth W V' := (Turns.drew Noth W).trans (Turns.of_below hV)
  have hTS := Turns.setCell (X := fun k => k = w2.heap.size) V' (p := ⟨w2.heap.size,0,none⟩) rfl (.int .i64 (max (wmk l j) (runN l (wds l)[j].1 ((wds l)[j].2 - (wds l)[j].1))))
  have hbV : V'.heap[w2.heap.size]? = some (.cells #[.int .i64 (wmk l j)] 3) := (hTV.block _ hlt (fun h => h)).trans hbx
  refine ⟨(Keeps.of_turns hTV (fun _ _ h => h)).trans (Keeps.of_turns hTS (fun k hk e => by have := hb.young k hk; omega)),⟨?_,?_⟩,?_⟩
  ·exact hb.turns.trans ((hTV.mono (fun _ h => h.elim)).trans hTS)
  ·intro k hk
   have := hb.young k hk
   have := hTV.size
   have := hTS.size
   omega
  ·rw [wmk_succ hj]
   exact heap_setCell_same V' w2.heap.size 0 _ 3 _ hbV
 case done =>
  rintro D W hD ⟨hb,hbx⟩ hK
  rw [hend] at hbx
  have hlt2 : w.heap.size < w4.heap.size := by omega
  have hgW : W.heap[w.heap.size]? = some (.cells #[.int .i64 0,.int .i64 0] 74) := (hb.turns.block _ hlt2 (by omega)).trans hg24
  have hRW := rec_any hR4 hb.turns (fun g hg e => by have := hown4 g hg; omega)
  have hcall := hall W.drew (rec_any hRW (Turns.drew Noth W) (fun _ _ h => h))
  have hlt := (Array.getElem?_eq_some_iff.1 hgW).1
  have hsz4 := hb.turns.size
  gi_wp2
  refine ext_r6 _ _ _ _ _ _ _ _ _ _ _ _ _ _ _ _ _ _ _ _ _ _ _ _ _ _ _ _ _ hbx hgW hcall ?_
  intro V' hV
  have hTV : Turns Noth W V' := (Turns.drew Noth W).trans (Turns.of_below hV)
  have hgV : V'.heap[w.heap.size]? = some (.cells #[.int .i64 0,.int .i64 0] 74) := (hTV.block _ hlt (fun h => h)).trans hgW
  have hT1 := Turns.setCell (X := fun k => k = w.heap.size) V' (p := ⟨w.heap.size,0,none⟩) rfl (.int .i64 (exS l))
  have hT2 := Turns.setCell (X := fun k => k = w.heap.size) (V'.setCell ⟨w.heap.size,0,none⟩ (.int .i64 (exS l))) (p := ⟨w.heap.size,1,none⟩) rfl (.int .i64 (exM l))
  have hg5 : ((V'.setCell ⟨w.heap.size,0,none⟩ (.int .i64 (exS l))).setCell ⟨w.heap.size,1,none⟩ (.int .i64 (exM l))).heap[w.heap.size]? = some (.cells #[.int .i64 (exS l),.int .i64 (exM l)] 74) :=
   heap_setCell_same (V'.setCell ⟨w.heap.size,0,none⟩ (.int .i64 (exS l))) w.heap.size 1 _ 74 _ (heap_setCell_same V' w.heap.size 0 _ 74 _ hgV)
  have hTX : Turns (fun k => k = w.heap.size) W ((V'.setCell ⟨w.heap.size,0,none⟩ (.int .i64 (exS l))).setCell ⟨w.heap.size,1,none⟩ (.int .i64 (exM l))) := (hTV.mono (fun _ h => h.elim)).trans (hT1.trans hT2)
  have hKD := (hTX.block D (Array.getElem?_eq_some_iff.1 hK).1 (by omega)).trans hK
  generalize (V'.setCell ⟨w.heap.size,0,none⟩ (.int .i64 (exS l))).setCell ⟨w.heap.size,1,none⟩ (.int .i64 (exM l)) = Z at *
  clear hbx hgW hgV hV hT1 hT2 hTV
  gi_wp2
  refine ⟨by simp,.inl ⟨_,_,rfl,run_takeDeferred hKD,?_⟩⟩
  have hBW : Below w.heap.size w W := hB4.trans (hb.turns.below (by omega) (fun k hk => by omega))
  have hBZ : Below w.heap.size w Z := hBW.trans (hTX.below hBW.size (fun k hk => by omega))
  refine ⟨_,results_cell_row rfl _ _ w.heap.size 74 #[.int .i64 (exS l),.int .i64 (exM l)] (0,0) _ rfl ((World.putObj_heap_other (by omega)).trans hg5) Tryz.underlying74 rfl info55,rfl,?_⟩
  exact hBZ.trans ((Turns.putObj (X := fun k => k = D) Z rfl _).below hBZ.size (fun k hk => by omega))
 case stop =>
  rintro D c i W _ _ h _
  exact h.elim
end Go.Proofs.YtaphggjakaghjaaGreatDoor

namespace Go.Proofs.YtaphggjakaghjaaGreatDoor
open Go.RowKit Go.Shelf
set_option maxRecDepth 100000
set_option maxHeartbeats 4000000

structure B2 (W : World) (b : Nat) (x y : Int) : Prop where
 row : W.heap[b]? = some (.cells #[.int .i64 x,.int .i64 y] 74 (0,0))
theorem B2.lt {W : World} {b : Nat} {x y : Int} (h : B2 W b x y) : b < W.heap.size := (Array.getElem?_eq_some_iff.1 h.row).1
theorem B2.below {W W' : World} {n b : Nat} {x y : Int} (h : B2 W b x y) (hb : Below n W W') (hn : b < n) : B2 W' b x y := ⟨(hb.block b hn).trans h.row⟩
theorem B2.turns {X : Nat → Prop} {W W' : World} {b : Nat} {x y : Int} (h : B2 W b x y) (ht : Turns X W W') (hn : ¬ X b) : B2 W' b x y := ⟨(ht.block b h.lt hn).trans h.row⟩
theorem B2.c0 {W : World} {b : Nat} {x y : Int} (h : B2 W b x y) : W.cell? ⟨b,0,none⟩ = some (.int .i64 x) := by rw [Lib.cell_of_heap h.row]; rfl
theorem B2.c1 {W : World} {b : Nat} {x y : Int} (h : B2 W b x y) : W.cell? ⟨b,1,none⟩ = some (.int .i64 y) := by rw [Lib.cell_of_heap h.row]; rfl
theorem B2.z {W : World} {b : Nat} {x y : Int} (h : B2 W b x y) (k : Nat) : W.frozen? ⟨b,k,none⟩ = false := Lib.frozen_of_heap h.row _
theorem B2.new (w : World) (x y : Int) : B2 (w.alloc (.cells #[.int .i64 x,.int .i64 y] 74)) w.heap.size x y := ⟨World.alloc_heap_new w _⟩
theorem B2.set0 {W : World} {b : Nat} {x y : Int} (h : B2 W b x y) (z : Int) : B2 (W.setCell ⟨b,0,none⟩ (.int .i64 z)) b z y := ⟨heap_setCell_same W b 0 _ 74 _ h.row⟩
theorem B2.set1 {W : World} {b : Nat} {x y : Int} (h : B2 W b x y) (z : Int) : B2 (W.setCell ⟨b,1,none⟩ (.int .i64 z)) b x z := ⟨heap_setCell_same W b 1 _ 74 _ h.row⟩
theorem B2.drewN {W : World} {b : Nat} {x y : Int} (h : B2 W b x y) (n : Nat) : B2 (W.drewN n) b x y := ⟨h.row⟩
theorem info55v (x y : Int) : (Tryz.prog.info? 74).map (·.size) = some (#[Value.int .i64 x,.int .i64 y] : Array Value).size := info55
theorem one55 (x y : Int) : (#[Value.int .i64 x,.int .i64 y] : Array Value).all (·.oneCell') = true := by simp [Value.oneCell']
structure TB (W : World) (b c : Nat) (v : Value) : Prop where
 row : W.heap[b]? = some (.cells #[.int .i64 c,v] 24 (0,0))
theorem TB.lt {W : World} {b c : Nat} {v : Value} (h : TB W b c v) : b < W.heap.size := (Array.getElem?_eq_some_iff.1 h.row).1
theorem TB.below {W W' : World} {n b c : Nat} {v : Value} (h : TB W b c v) (hb : Below n W W') (hn : b < n) : TB W' b c v := ⟨(hb.block b hn).trans h.row⟩
theorem TB.turns {X : Nat → Prop} {W W' : World} {b c : Nat} {v : Value} (h : TB W b c v) (ht : Turns X W W') (hn : ¬ X b) : TB W' b c v := ⟨(ht.block b h.lt hn).trans h.row⟩
theorem TB.c0 {W : World} {b c : Nat} {v : Value} (h : TB W b c v) : W.cell? ⟨b,0,none⟩ = some (.int .i64 c) := by rw [Lib.cell_of_heap h.row]; rfl
theorem TB.c1 {W : World} {b c : Nat} {v : Value} (h : TB W b c v) : W.cell? ⟨b,1,none⟩ = some v := by rw [Lib.cell_of_heap h.row]; rfl
theorem TB.new (w : World) (c : Nat) (v : Value) : TB (w.alloc (.cells #[.int .i64 c,v] 24)) w.heap.size c v := ⟨World.alloc_heap_new w _⟩

theorem cmx_step {f : Nat → Int} {c j p : Nat} (hp : p % c = 0) (hj : j < c) : cmx f c j (p + c) = max (cmx f c j p) (f (j + p)) := by
 obtain ⟨r,rfl⟩ : ∃ r,p = r * c := ⟨p / c,by have := Nat.div_add_mod p c; rw [hp,Nat.mul_comm] at this; omega⟩
 rw [cmx_round hj,Nat.add_comm j]
theorem row_next {n c p j : Nat} (hn : n % c = 0) (hp : p % c = 0) (hlt : j + p < n) : p + c ≤ n := by
 obtain ⟨r,rfl⟩ : ∃ r,p = c * r := ⟨p / c,by have := Nat.div_add_mod p c; omega⟩
 obtain ⟨R,rfl⟩ : ∃ R,n = c * R := ⟨n / c,by have := Nat.div_add_mod n c; omega⟩
 have h1 : r < R := Nat.lt_of_mul_lt_mul_left (a := c) (by omega)
 have := Nat.mul_le_mul_left c (show r + 1 ≤ R by omega)
 rw [Nat.mul_succ] at this
 exact this
theorem row_last {n c p j : Nat} (hn : n % c = 0) (hp : p % c = 0) (hj : j < c) (hle : p ≤ n) (h : ¬ j + p < n) : p = n := by
 by_cases e : p = n
 ·exact e
 ·have := row_next (j := 0) hn hp (by omega)
  omega
theorem measure_any (c : Nat) (v : Value) (l : List ByteArray) (hc : 1 ≤ c ∧ c ≤ 8) (hl : l.length ≤ 64) (hd : l.length % c = 0) (hC : Cells l) (j : Nat) (hj : j < c) (w : World) (hS : StrsAt w v l) :
  Calls Tryz.prog 56 #[.agg #[.int .i64 c,v],.int .i64 j] w fun e w' => e = .returned (.agg #[.int .i64 (colI c l j).s,.int .i64 (colI c l j).m]) ∧ Below w.heap.size w w' := by
 obtain ⟨a,cap,rfl,h2⟩ := hS.ex
 clear hS
 have hcol := hC.col c j
 have hcm := cmx_rng hC.rng c j
 have hext : Hid (∀ k (hk : k < l.length) (W : World),Calls Tryz.prog 71 #[.string l[k]] W fun e w' => e = .returned (.agg #[.int .i64 (fS l k),.int .i64 (fM l k)]) ∧ Below W.heap.size W w') := fun k hk W => by
  have := extent_any l[k] (hC k hk) W
  unfold fS fM
  rw [getD_cell hk]
  exact this
 have hB1 := (Below.refl w.heap.size w).alloc (Nat.le_refl _) (.cells #[.int .i64 c,.slice a l.length cap] 24)
 have hT1 := TB.new w c (.slice a l.length cap)
 have hs1 : (w.alloc (.cells #[.int .i64 c,.slice a l.length cap] 24)).heap.size = w.heap.size + 1 := World.size_alloc _ _
 have hB2 := hB1.alloc hB1.size (.cells #[.int .i64 0,.int .i64 0] 74)
 have hT2 := hT1.turns (Turns.alloc Noth _ (.cells #[.int .i64 0,.int .i64 0] 74)) (fun h => h)
 have hr2 := B2.new (w.alloc (.cells #[.int .i64 c,.slice a l.length cap] 24)) 0 0
 have hs2 : ((w.alloc (.cells #[.int .i64 c,.slice a l.length cap] 24)).alloc (.cells #[.int .i64 0,.int .i64 0] 74)).heap.size = w.heap.size + 2 := by rw [World.size_alloc,hs1]
 have hB3 := hB2.alloc hB2.size (.cells #[.int .i64 0,.int .i64 0] 74)
 have hT3 := hT2.turns (Turns.alloc Noth _ (.cells #[.int .i64 0,.int .i64 0] 74)) (fun h => h)
 have hr3 := hr2.turns (Turns.alloc Noth _ (.cells #[.int .i64 0,.int .i64 0] 74)) (fun h => h)
 have hq3 := B2.new ((w.alloc (.cells #[.int .i64 c,.slice a l.length cap] 24)).alloc (.cells #[.int .i64 0,.int .i64 0] 74)) 0 0
 rw [hs1] at hr3
 rw [hs2] at hq3
 obtain ⟨hc1,hc2⟩ := hc
 go_enter Tryz.func56,Tryz.ntmps56
 go_wp2_with fail
 go_loopw [6] (fun i wr => ∃ p : Nat,p % c = 0 ∧ p ≤ l.length ∧ i = .int .i64 ((j + p : Nat) : Int) ∧ Below w.heap.size w wr ∧ TB wr w.heap.size c (.slice a l.length cap) ∧ B2 wr (w.heap.size + 1) 0 0 ∧ B2 wr (w.heap.size + 2) (cmx (fS l) c j p) (cmx (fM l) c j p)) (fun i _ => l.length + 8 - (intOf i).toNat)
 case atStart => exact ⟨0,Nat.zero_mod c,by omega,rfl,hB3,hT3,hr3,hq3⟩
 case round =>
  clear hB1 hT1 hs1 hB2 hT2 hr2 hs2 hB3 hT3 hr3 hq3
  obtain ⟨p,hp,hpl,rfl,hb,hT,hr,hq⟩ := hrel
  have t0 := hT.c0
  have t1 := hT.c1
  have hsw := hq.lt
  by_cases hlt : j + p < l.length
  ·rcases h2 with h2 | ⟨b,o,rfl,hbl,hcl⟩
   ·rw [h2] at hlt; simp at hlt
   have hlt' : ((j + p : Nat) : Int) < l.length := by omega
   have d0 : wr.cell? ⟨b,o + (j + p),none⟩ = some (.string l[j + p]) := (hb.cell hbl).trans (hcl (j + p) hlt)
   have hnx := row_next hd hp hlt
   have hpc : (p + c) % c = 0 := by rw [Nat.add_mod_right]; exact hp
   have hcall := hext.out (j + p) hlt wr
   have k1 : Hid (cmx (fS l) c j (p + c) = max (cmx (fS l) c j p) (fS l (j + p))) := cmx_step hp hj
   have k2 : Hid (cmx (fM l) c j (p + c) = max (cmx (fM l) c j p) (fM l (j + p))) := cmx_step hp hj
   clear hcl hext hcm hcol
   generalize l[j + p] = s at *
   generalize fS l (j + p) = x at *
   generalize fM l (j + p) = y at *
   generalize cmx (fS l) c j p = X at *
   generalize cmx (fM l) c j p = Y at *
   generalize hi : j + p = i at *
   have hi' : Hid (j + p = i) := hi
   clear hi
   go_wp2_with fail
   refine hcall.mono ?_
   rintro e w1 ⟨rfl,b1⟩
   have hT1 := hT.below b1 hT.lt
   have hr1 := hr.below b1 hr.lt
   have hq1 := hq.below b1 hq.lt
   have hB1 := hb.trans (b1.mono hb.size)
   have hz1 := b1.size
   have hB2 := hB1.alloc hB1.size (.cells #[.int .i64 x,.int .i64 y] 74)
   have hx2 := B2.new w1 x y
   have hT2 := hT1.turns (Turns.alloc Noth _ (.cells #[.int .i64 x,.int .i64 y] 74)) (fun h => h)
   have hr2 := hr1.turns (Turns.alloc Noth _ (.cells #[.int .i64 x,.int .i64 y] 74)) (fun h => h)
   have hq2 := hq1.turns (Turns.alloc Noth _ (.cells #[.int .i64 x,.int .i64 y] 74)) (fun h => h)
   have hlw := hq1.lt
   go_wp2_with fail
   clear hT hr hq hb hT1 hr1 hq1 hB1 t0 t1 d0 hcall b1 hbl
   generalize w1.alloc (.cells #[.int .i64 x,.int .i64 y] 74) = w2 at *
   have e0 := hq2.c0
   have e1 := hq2.c1
   have z0 := hq2.z 0
   have z1 := hq2.z 1
   have x0 := hx2.c0
   have x1 := hx2.c1
   have hend : Hid (∀ X' Y',X' = max X x → Y' = max Y y → Below w.heap.size w (((w2.setCell ⟨w.heap.size + 2,0,none⟩ (.int .i64 X')).setCell ⟨w.heap.size + 2,1,none⟩ (.int .i64 Y')).drew) ∧ TB (((w2.setCell ⟨w.heap.size + 2,0,none⟩ (.int .i64 X')).setCell ⟨w.heap.size + 2,1,none⟩ (.int .i64 Y')).drew) w.heap.size c (.slice (some ⟨b,o,none⟩) l.length cap) ∧ B2 (((w2.setCell ⟨w.heap.size + 2,0,none⟩ (.int .i64 X')).setCell ⟨w.heap.size + 2,1,none⟩ (.int .i64 Y')).drew) (w.heap.size + 1) 0 0 ∧ B2 (((w2.setCell ⟨w.heap.size + 2,0,none⟩ (.int .i64 X')).setCell ⟨w.heap.size + 2,1,none⟩ (.int .i64 Y')).drew) (w.heap.size + 2) (cmx (fS l) c j (p + c)) (cmx (fM l) c j (p + c))) := by
    rintro X' Y' rfl rfl
    have T1 := Turns.setCell (X := fun k => k = w.heap.size + 2) w2 (p := ⟨w.heap.size + 2,0,none⟩) rfl (.int .i64 (max X x))
    have T2 := Turns.setCell (X := fun k => k = w.heap.size + 2) (w2.setCell ⟨w.heap.size + 2,0,none⟩ (.int .i64 (max X x))) (p := ⟨w.heap.size + 2,1,none⟩) rfl (.int .i64 (max Y y))
    have T3 := (T1.trans T2).trans (Turns.drewN (fun k => k = w.heap.size + 2) _ 1)
    rw [k1.out,k2.out]
    exact ⟨hB2.trans (T3.below hB2.size (fun k hk => by omega)),hT2.turns T3 (by omega),hr2.turns T3 (by omega),((hq2.set0 _).set1 _).drewN 1⟩
   have hne : ¬ w1.heap.size = w.heap.size + 2 := by omega
   clear hT2 hr2 hq2 hB2 hx2 k1 k2
   by_cases dx : X < x
   ·by_cases dy : Y < y
    ·go_region
     obtain ⟨E1,E2,E3,E4⟩ := hend.out x y (by omega) (by omega)
     have t0 := E2.c0
     clear hend e0 e1 z0 z1 x0 x1
     generalize ((w2.setCell ⟨w.heap.size + 2,0,none⟩ (.int .i64 x)).setCell ⟨w.heap.size + 2,1,none⟩ (.int .i64 y)).drew = w3 at *
     go_wp2_with fail
     go_roundw
     case rel => exact ⟨p + c,hpc,hnx,by have := hi'.out; simp; omega,E1,E2,E3,E4⟩
     case measure => have := hi'.out; simp [intOf]; omega
    ·go_region
     obtain ⟨E1,E2,E3,E4⟩ := hend.out x Y (by omega) (by omega)
     have t0 := E2.c0
     clear hend e0 e1 z0 z1 x0 x1
     generalize ((w2.setCell ⟨w.heap.size + 2,0,none⟩ (.int .i64 x)).setCell ⟨w.heap.size + 2,1,none⟩ (.int .i64 Y)).drew = w3 at *
     go_wp2_with fail
     go_roundw
     case rel => exact ⟨p + c,hpc,hnx,by have := hi'.out; simp; omega,E1,E2,E3,E4⟩
     case measure => have := hi'.out; simp [intOf]; omega
   ·by_cases dy : Y < y
    ·go_region
     obtain ⟨E1,E2,E3,E4⟩ := hend.out X y (by omega) (by omega)
     have t0 := E2.c0
     clear hend e0 e1 z0 z1 x0 x1
     generalize ((w2.setCell ⟨w.heap.size + 2,0,none⟩ (.int .i64 X)).setCell ⟨w.heap.size + 2,1,none⟩ (.int .i64 y)).drew = w3 at *
     go_wp2_with fail
     go_roundw
     case rel => exact ⟨p + c,hpc,hnx,by have := hi'.out; simp; omega,E1,E2,E3,E4⟩
     case measure => have := hi'.out; simp [intOf]; omega
    ·go_region
     obtain ⟨E1,E2,E3,E4⟩ := hend.out X Y (by omega) (by omega)
     have t0 := E2.c0
     clear hend e0 e1 z0 z1 x0 x1
     generalize ((w2.setCell ⟨w.heap.size + 2,0,none⟩ (.int .i64 X)).setCell ⟨w.heap.size + 2,1,none⟩ (.int .i64 Y)).drew = w3 at *
     go_wp2_with fail
     go_roundw
     case rel => exact ⟨p + c,hpc,hnx,by have := hi'.out; simp; omega,E1,E2,E3,E4⟩
     case measure => have := hi'.out; simp [intOf]; omega
  ·have he := row_last hd hp hj hpl hlt
   have hge : ¬ ((j + p : Nat) : Int) < l.length := by omega
   have e0 := hq.c0
   have e1 := hq.c1
   have hce : Hid (colI c l j = ⟨cmx (fS l) c j p + 4,cmx (fM l) c j p + 4⟩) := (by unfold colI; rw [he] : _ = _)
   have hpp := hcm p
   have hres := B2.turns hr (Turns.drewN Noth wr 0) (fun h => h)
   have T1 := Turns.setRow (X := fun k => k = w.heap.size + 1) wr (r := w.heap.size + 1) rfl #[.int .i64 (cmx (fS l) c j p + 4),.int .i64 (cmx (fM l) c j p + 4)]
   have hBe := hb.trans (T1.below hb.size (fun k hk => by omega))
   clear hext hcm hcol h2 hd
   have hce' : Hid (∀ W,Below w.heap.size w W → Value.agg #[.int .i64 (cmx (fS l) c j p + 4),.int .i64 (cmx (fM l) c j p + 4)] = .agg #[.int .i64 (colI c l j).s,.int .i64 (colI c l j).m] ∧ Below w.heap.size w W) := fun W hW => ⟨by rw [hce.out],hW⟩
   clear hce
   generalize cmx (fS l) c j p = X at *
   generalize cmx (fM l) c j p = Y at *
   clear hres
   go_wp2_with (refine wpList_store_row rfl 74 _ _ rfl (w.heap.size + 1) #[.int .i64 (X + 4),.int .i64 (Y + 4)] rfl rfl 74 _ hr.row (info55v _ _) rfl (one55 _ _) ?_)
   refine bodyPost_ret (results_cell_row rfl _ _ (w.heap.size + 1) 74 #[.int .i64 (X + 4),.int .i64 (Y + 4)] (0,0) _ rfl (setRow_heap _ _ _ _ 74 _ hr.row) Tryz.underlying74 rfl info55) rfl ?_
   obtain ⟨q1,q2⟩ := hce'.out _ hBe
   exact ⟨by rw [q1],q2⟩
end Go.Proofs.YtaphggjakaghjaaGreatDoor

namespace Go.Proofs.YtaphggjakaghjaaGreatDoor
open Go.RowKit Go.Shelf
set_option maxRecDepth 100000
set_option maxHeartbeats 2000000
attribute [local go_sem] Oper.semAt_some wide_fn wide_depth

theorem columns_any (c : Nat) (v : Value) (w : World) : Calls Tryz.prog 41 #[.agg #[.int .i64 c,v]] w fun e w' => e = .returned (.func (.func 55) #[] #[.pointer (some ⟨w.heap.size,0,none⟩)]) ∧ w' = w.alloc (.cells #[.int .i64 c,v] 24) := by
 go_enter Tryz.func41,Tryz.ntmps41
 go_wp2
 go_ret
 exact ⟨rfl,rfl⟩
structure Tab (c : Nat) (l : List ByteArray) : Prop where
 hc : 1 ≤ c ∧ c ≤ 8
 hl : 1 ≤ l.length ∧ l.length ≤ 64
 hd : l.length % c = 0
 ha : Cells l
structure ReadT (Bt c : Nat) (v : Value) (l : List ByteArray) (W : World) : Prop where
 box : TB W Bt c v
 st : StrsAt W v l
def coV (q : Co) : Value := .agg #[.int .i64 q.s,.int .i64 q.m]
def encT (c : Nat) (l : List ByteArray) (i : Nat) : Array Value := #[coV (colI c l i)]

theorem columns1_gives (Bt c : Nat) (v : Value) (l : List ByteArray) (hT : Tab c l) :
  Gives Tryz.prog 55 #[.pointer (some ⟨Bt,0,none⟩)] c (encT c l) (ReadT Bt c v l) := by
 intro lo J Jx W hJ hJx hRd hY h0
 refine callsIn_wide (n := 0).1 ?_
 refine callsIn_of_wp Tryz.func55 rfl trivial ?_ rfl
 simp only [Tryz.ntmps55,List.size_toArray,List.length_cons,List.length_nil,Nat.reduceAdd,Nat.reduceSub,Array.replicate_succ,Array.replicate_zero,List.push_toArray,List.append_toArray,List.nil_append,List.cons_append]
 have hc0 := (hRd _ _ _ h0).box.c0
 obtain ⟨n1,n2⟩ := hT.hc
 have hfin : Hid (∀ X W',J c X W' → J c Noth W') := fun X W' h => hJ _ _ _ _ _ h (Turns.refl _ _) (fun _ h => h.elim)
 gi_wp2
 gi_loopw [6] (fun q wr => ∃ (k : Nat) (X : Nat → Prop),k ≤ c ∧ q = .int .i64 (k : Nat) ∧ J k X wr) (fun q _ => c - (intOf q).toNat)
 case atStart => exact ⟨0,Noth,Nat.zero_le _,rfl,h0⟩
 case round =>
  obtain ⟨k,X,hk,rfl,hJs⟩ := hrel
  by_cases hlt : k < c
  ·have hlt' : (k : Int) < c := by omega
   have hR := hRd _ _ _ hJs
   have t0 := hR.box.c0
   have t1 := hR.box.c1
   have hm := measure_any c v l hT.hc hT.hl.2 hT.hd hT.ha k hlt wr hR.st
   have hYk := fun (W1 : World) (h : Below wr.heap.size wr W1) => hY k X W1 hlt (hJ _ _ _ _ _ hJs (Turns.of_below h |>.mono (fun _ h => h.elim)) (fun _ h => .inl h))
   unfold encT coV at hYk
   clear hRd hY hJs hR h0 hc0
   generalize (colI c l k).s = x at *
   generalize (colI c l k).m = y at *
   gi_wp2_with fail
   refine (callsIn_wide.2 hm).mono ?_
   rintro e w1 ⟨rfl,b1⟩
   obtain ⟨fn,tmps,assign,body,hy,hR⟩ := hYk w1 b1
   clear hYk hm t0 t1
   gi_wp2_with fail
   refine hR.mono ?_
   rintro e W3 ⟨hk3,(⟨rfl,hJ3⟩ | ⟨rfl,hJx3⟩)⟩
   ·gi_wp2
    go_roundw
    case rel => exact ⟨k + 1,X,by omega,by simp,hJ3⟩
    case measure => simp [intOf]; omega
   ·gi_wp2
    refine bodyPost_ret (results_none rfl _ _ _) rfl ?_
    exact ⟨⟨_,rfl⟩,.inr ⟨k,hlt,hJx _ _ _ _ _ hJx3 (Turns.refl _ _) (fun _ h => h.elim)⟩⟩
  ·obtain rfl : k = c := by omega
   have hJe := hfin.out X wr hJs
   have hge : ¬ (k : Int) < k := by omega
   clear hRd hY hJs h0 hc0
   gi_wp2
   go_end0
   exact ⟨⟨_,rfl⟩,.inl hJe⟩

def rowT (c : Nat) (l : List ByteArray) (k : Nat) : List Value := ((List.range k).map (colI c l)).flatMap coL
theorem rowT_succ (c : Nat) (l : List ByteArray) (k : Nat) : rowT c l (k + 1) = rowT c l k ++ coL (colI c l k) := by
 unfold rowT
 rw [List.range_succ,List.map_append,List.flatMap_append]; simp
theorem info55z : (Tryz.prog.info? 74).map (fun i => (i.zero,i.size,i.bytes)) = some (some (.agg #[.int .i64 0,.int .i64 0]),2,16) := by kernel_rfl
theorem appendSeq_any (Bt c : Nat) (v : Value) (l : List ByteArray) (hT : Tab c l) (w : World) (hR : ReadT Bt c v l w) (hvb : ∀ g,v.ownBlock = some g → g < w.heap.size) :
  Calls Tryz.prog 54 #[.slice none 0 0,.func (.func 55) #[] #[.pointer (some ⟨Bt,0,none⟩)]] w fun e w' => ∃ u,e = .returned u ∧ w'.ownsRow w.heap.size 74 2 u c (rowT c l c) ∧ Below w.heap.size w w' := by
 obtain ⟨n1,n2⟩ := hT.hc
 have hBt := hR.box.lt
 refine callsIn_wide (n := 0).1 ?_
 refine callsIn_of_wp_marks Tryz.func54 rfl trivial ?_ rfl
 simp only [Tryz.ntmps54,List.size_toArray,List.length_cons,List.length_nil,Nat.reduceAdd,Nat.reduceSub,Array.replicate_succ,Array.replicate_zero,List.push_toArray,List.append_toArray,List.nil_append,List.cons_append]
 gi_wp2
 obtain ⟨w1,hw1⟩ : ∃ w1,w.alloc (.cells #[.slice none 0 0] 71) = w1 := ⟨_,rfl⟩
 have hs1 : w1.heap.size = w.heap.size + 1 := by rw [← hw1]; simp
 have hT1 : Turns Noth w w1 := by rw [← hw1]; exact Turns.alloc _ _ _
 have hB1 : w1.heap[w.heap.size]? = some (.cells #[.slice none 0 0] 71) := by rw [← hw1]; exact World.alloc_heap_new w _
 have hR1 : ∀ (X : Nat → Prop) W,Turns X w1 W → (∀ k,X k → w.heap.size ≤ k) → ReadT Bt c v l W := fun X W hX hx => by
  have hTX : Turns X w W := (hT1.mono (fun _ h => h.elim)).trans hX
  refine ⟨hR.box.turns hTX (fun h => by have := hx _ h; omega),?_⟩
  have h1 := hR.st
  obtain ⟨⟨a,cap,rfl,h2⟩,hle⟩ := h1
  refine ⟨⟨a,cap,rfl,?_⟩,hle⟩
  rcases h2 with h2 | ⟨b,o,rfl,hlt,hc⟩
  ·exact .inl h2
  ·refine .inr ⟨b,o,rfl,Nat.lt_of_lt_of_le hlt hTX.size,fun i hi => ?_⟩
   rw [← hc i hi]
   unfold World.cell?
   rw [hTX.block b hlt (fun h => by have := hx _ h; omega)]
 obtain ⟨i0,hi,hz0,hz1,hz2⟩ := info_parts info55z
 rw [hw1]
 refine wp_range (gf := 55) (lb := #[.pointer (some ⟨Bt,0,none⟩)]) rfl (enters_of Tryz.func55 (by kernel_rfl) rfl) (columns1_gives Bt c v l hT) (fun _ => rfl)
  (fun j X W => Base w1 (fun k => k = w.heap.size) X W ∧ ∃ u,W.heap[w.heap.size]? = some (.cells #[u] 71) ∧ W.ownsRow w1.heap.size 74 2 u j (rowT c l j) ∧ ∀ g,u.ownBlock = some g → ¬ X g)
  (fun _ _ _ _ => False)
  (fun a' j X W => (Base w1 (fun k => k = w.heap.size) X W ∧ ∃ u,W.heap[w.heap.size]? = some (.cells #[u] 71) ∧ W.ownsRow w1.heap.size 74 2 u j (rowT c l j) ∧ ∀ g,u.ownBlock = some g → ¬ X g) ∧
   ∃ B,¬ X B ∧ W.heap[B]? = some (.cells (coL (colI c l j)).toArray 74) ∧
   a' = { tmps := #[.slice none 0 0,.func (.func 55) #[] #[.pointer (some ⟨Bt,0,none⟩)],.pointer (some ⟨w.heap.size,0,none⟩),undef,.slice none 0 0,.pointer (some ⟨B,0,none⟩),.func (.func 55) #[] #[.pointer (some ⟨Bt,0,none⟩)],coV (colI c l j),undef,undef,undef,undef,undef],defers := [] })
  (steady_row (by omega) _ _ _ _ _ _) (fun _ => steady_never) (fun a' => (steady_row (by omega) _ _ _ _ _ _).and (steady_round a' _ _)) ?hR ⟨Base.start _ _,_,hB1,World.ownsRow_nil _ _ _ _,fun g hg => by cases hg⟩ ?assign ?body ?done ?stop
 case hR =>
  rintro i X W ⟨hb,_⟩
  exact hR1 _ _ hb.turns (fun k h => by omega)
 case assign =>
  rintro lo j X W K hj ⟨hb,u,hu,hr,hg⟩ hK
  unfold encT coV
  gi_wp2
  exact hK _ _ (Keeps.alloc _ _ _) ⟨⟨hb.alloc _,u,(Below.heap_alloc _ _ _ (by have := hb.turns.size; omega)).trans hu,hr.alloc _,hg⟩,W.heap.size,hb.fresh,World.alloc_heap_new _ _,rfl⟩
 case body =>
  rintro lo j X a' W hj ⟨⟨hb,u,hu,hrow,hg⟩,B,hB,hr,rfl⟩
  have hc0 : W.cell? ⟨w.heap.size,0,none⟩ = some u := by rw [Lib.cell_of_heap hu]; rfl
  have hr0 : W.cell? ⟨B,0,none⟩ = some (.int .i64 (colI c l j).s) := by rw [Lib.cell_of_heap hr]; rfl
  have hr1 : W.cell? ⟨B,1,none⟩ = some (.int .i64 (colI c l j).m) := by rw [Lib.cell_of_heap hr]; rfl
  have hbs := hb.turns.size
  gi_wp2_with (gi_at_builtin; refine wpListIn_append_where _ rfl _ _ 71 rfl w1.heap.size 74 i0 _ 2 16 Tryz.underlying71 hi hz0 hz1 hz2 rfl (by decide) u _ _ rfl (hrow.alloc _) ⟨W.heap.size,0,none⟩ 1 1 (coL (colI c l j)) rfl rfl (cells_new W _ _) (coL_one _) (by unfold maxLen; omega) (by omega) (by simp; omega) ?_; intro v' w2 hown' hgrow hwh; rw [← rowT_succ] at hown'; obtain ⟨g',cap',rfl⟩ := ownsRow_succ hown'; obtain ⟨hv1,q1,q2,q3,q4,q5⟩ := append_step hb (by omega) hu (by decide) hrow hg hown' hgrow hwh; have hc1 := hv1.cell; have hf1 := hv1.frozen)
  exact ⟨q1,q2,_,q3,q4,q5⟩
 case done =>
  rintro D W hD ⟨hb,u,hu,hrow,hg⟩ hK
  have hc0 : W.cell? ⟨w.heap.size,0,none⟩ = some u := by rw [Lib.cell_of_heap hu]; rfl
  gi_wp2
  refine ⟨by simp,.inl ⟨_,_,rfl,run_takeDeferred hK,?_⟩⟩
  refine ⟨_,results_tmp rfl _ _ _,u,rfl,?_,below_end hT1 hb (fun k h => by omega) _⟩
  exact ownsRow_turns (ownsRow_base hrow (by omega)) (Turns.putObj (X := fun k => k = D) W rfl _) hg
 case stop =>
  rintro D c' i W _ _ h _
  exact h.elim
end Go.Proofs.YtaphggjakaghjaaGreatDoor
