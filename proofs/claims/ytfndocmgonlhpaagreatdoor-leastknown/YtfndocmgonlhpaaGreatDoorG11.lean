/-
  What is proved here: what keeps, mayNotBe, Check, Slot of first and the document's slot, Check, Slot answer of any profile.
  What is proved here: what begin, upTo, legal, width, next of first answer.
  What is proved here: what legal, next and refuse of least and Leaps of item answer.
  What is proved here: what next of least answers.
-/
import Derived.Test.YtfndocmgonlhpaaGreatDoorG10
namespace Go.Proofs.YtfndocmgonlhpaaGreatDoor
open Go.RowKit Go.Shelf
set_option maxRecDepth 100000
set_option maxHeartbeats 2000000

theorem fkeeps_any (n : Int) (w : World) : Calls Tryz.prog 94 #[.int .i64 n] w fun e w' => e = .returned (.bool (keB n 4095)) ∧ w' = w := by
 unfold keB
 by_cases h1 : 0 ≤ n
 ·by_cases h2 : n ≤ 4095
  ·rw [decide_eq_true ⟨h1,h2⟩]
   go_enter Tryz.func94,Tryz.ntmps94
   go_wp2
   go_ret
   exact ⟨rfl,rfl⟩
  ·rw [decide_eq_false (by omega)]
   go_enter Tryz.func94,Tryz.ntmps94
   go_wp2
   go_ret
   exact ⟨rfl,rfl⟩
 ·rw [decide_eq_false (by omega)]
  go_enter Tryz.func94,Tryz.ntmps94
  go_wp2
  go_ret
  exact ⟨rfl,rfl⟩
theorem okS_is (x y : Int) : okS ⟨x,y⟩ = (keB x 4095 && keB y 4095) := by
 unfold okS keB
 simp [Bool.decide_and]

theorem mayNot_any (s : Sl) (w : World) : Calls Tryz.prog 55 #[.agg (slL s).toArray] w fun e w' => e = .returned (.bool (!okS s)) ∧ Below w.heap.size w w' := by
 obtain ⟨x,y⟩ := s
 rw [okS_is]
 have hB := (Below.refl w.heap.size w).alloc (Nat.le_refl _) (.cells #[.int .i64 x,.int .i64 y] 29)
 have hx := fkeeps_any x (w.alloc (.cells #[.int .i64 x,.int .i64 y] 29))
 have hy := fkeeps_any y (w.alloc (.cells #[.int .i64 x,.int .i64 y] 29))
 show Calls Tryz.prog 55 #[.agg #[.int .i64 x,.int .i64 y]] w _
 cases h1 : keB x 4095 with
 | true =>
  cases h2 : keB y 4095 with
  | true =>
   rw [h1] at hx; rw [h2] at hy
   go_enter Tryz.func55,Tryz.ntmps55
   go_wp2_with (go_at_call 94; first | (with_reducible refine hx.mono ?_; rintro e w' ⟨rfl,rfl⟩) | (with_reducible refine hy.mono ?_; rintro e w' ⟨rfl,rfl⟩))
   go_ret
   exact ⟨rfl,hB⟩
  | false =>
   rw [h1] at hx; rw [h2] at hy
   go_enter Tryz.func55,Tryz.ntmps55
   go_wp2_with (go_at_call 94; first | (with_reducible refine hx.mono ?_; rintro e w' ⟨rfl,rfl⟩) | (with_reducible refine hy.mono ?_; rintro e w' ⟨rfl,rfl⟩))
   go_ret
   exact ⟨rfl,hB⟩
 | false =>
  rw [h1] at hx
  clear hy
  go_enter Tryz.func55,Tryz.ntmps55
  go_wp2_with (go_at_call 94; refine hx.mono ?_; rintro e w' ⟨rfl,rfl⟩)
  go_ret
  exact ⟨rfl,hB⟩
theorem sls_at {W : World} {a : Option Addr} {n cap : Nat} {ss : List Sl} (h : SlsAt W (.slice a n cap) ss) {i : Nat} (hi : i < ss.length) :
  ∃ b o,a = some ⟨b,o,none⟩ ∧ b < W.heap.size ∧ ∀ W',Below W.heap.size W W' → W'.cell? ⟨b,o + i * 2,none⟩ = some (.int .i64 ss[i].x) ∧ W'.cell? ⟨b,o + i * 2 + 1,none⟩ = some (.int .i64 ss[i].w) := by
 obtain ⟨a',cap',h1,h2⟩ := h.ex
 cases h1
 rcases h2 with h2 | ⟨b,o,rfl,hb,hc⟩
 ·subst h2; simp at hi
 ·exact ⟨b,o,rfl,hb,fun W' hW => ⟨(hW.cell hb).trans (hc i hi 0 _ rfl),(hW.cell hb).trans (hc i hi 1 _ rfl)⟩⟩
theorem sall_no {ss : List Sl} {i : Nat} (hi : i < ss.length) (h : okS ss[i] = false) : ss.all okS = false := by
 rw [List.all_eq_false]
 exact ⟨ss[i],List.getElem_mem hi,by rw [h]; decide⟩
theorem sall_yes {ss : List Sl} (h : ∀ i (hi : i < ss.length),okS ss[i] = true) : ss.all okS = true := by
 rw [List.all_eq_true]
 intro x hx
 obtain ⟨i,hi,rfl⟩ := List.getElem_of_mem hx
 exact h i hi

theorem sindex_any (v : Value) (l : List Sl) (hl : l.length ≤ 9223372036854775807) (w : World) (hS : SlsAt w v l) :
  Calls Tryz.prog 95 #[v,.func (.func 55) #[] #[]] w fun e w' => (∃ n : Int,e = .returned (.int .i64 n) ∧ decide (0 ≤ n) = !l.all okS) ∧ Below w.heap.size w w' := by
 obtain ⟨a,cap,rfl,-⟩ := hS.ex
 have hY : Hid (∀ k (hk : k < l.length),okS l[k] = false → decide ((0 : Int) ≤ (k : Nat)) = !l.all okS) := fun k hk e => by rw [sall_no hk e]; simp
 have hN : Hid ((∀ k (hk : k < l.length),okS l[k] = true) → decide ((0 : Int) ≤ -1) = !l.all okS) := fun h => by rw [sall_yes h]; simp
 have hSh : Hid (SlsAt w (.slice a l.length cap) l) := hS
 clear hS
 generalize (!l.all okS) = r at hY hN ⊢
 go_enter Tryz.func95,Tryz.ntmps95
 go_wp2_with fail
 go_loopw [8] (fun i wr => ∃ (k : Nat),k ≤ l.length ∧ i = .int .i64 k ∧ Below w.heap.size w wr ∧ Hid (∀ j (hj : j < l.length),j < k → okS l[j] = true)) (fun i _ => l.length - (intOf i).toNat)
 case atStart => exact ⟨0,by omega,rfl,Below.refl _ _,fun j _ hj => by omega⟩
 case round =>
  obtain ⟨k,hk,rfl,hb,hall⟩ := hrel
  by_cases hlt : k < l.length
  ·obtain ⟨b,o,rfl,hbl,hit⟩ := sls_at hSh.out hlt
   obtain ⟨c0,c1⟩ := hit wr hb
   have hlt' : (k : Int) < l.length := by omega
   have hm := mayNot_any l[k] wr
   have hyes : Hid (okS l[k] = false → decide ((0 : Int) ≤ (k : Nat)) = r) := hY.out k hlt
   have hno : Hid (okS l[k] = true → ∀ j (hj : j < l.length),j < k + 1 → okS l[j] = true) := fun hv j hj hjk => by
    by_cases h : j < k
    ·exact hall.out j hj h
    ·obtain rfl : j = k := by omega
     exact hv
   clear hY hN hall hit hSh
   generalize l[k] = it at *
   obtain ⟨x0,y0⟩ := it
   simp only at c0 c1
   have hm' : Hid (Calls Tryz.prog 55 #[.agg #[.int .i64 x0,.int .i64 y0]] wr fun e w' => e = .returned (.bool (!okS ⟨x0,y0⟩)) ∧ Below wr.heap.size wr w') := hm
   clear hm
   cases hv : okS ⟨x0,y0⟩ with
   | false =>
    have hn' : Hid (decide ((0 : Int) ≤ (k : Nat)) = r) := hyes.out hv
    rw [hv] at hm'
    clear hyes hno hv
    go_wp2_with (go_at_call 55; refine hm'.out.mono ?_; rintro e w' ⟨rfl,hb2⟩)
    go_ret
    exact ⟨⟨_,rfl,hn'.out⟩,hb.trans (hb2.mono hb.size)⟩
   | true =>
    have hn : Hid (∀ j (hj : j < l.length),j < k + 1 → okS l[j] = true) := hno.out hv
    rw [hv] at hm'
    clear hyes hno hv
    go_wp2_with (go_at_call 55; refine hm'.out.mono ?_; rintro e w' ⟨rfl,hb2⟩)
    go_roundw
    case rel => exact ⟨k + 1,by omega,by simp,hb.trans (hb2.mono hb.size),hn⟩
    case measure => simp [intOf]; omega
  ·have hn' : Hid (decide ((0 : Int) ≤ -1) = r) := hN.out (fun j hj => hall.out j hj (by omega))
   have hge : ¬ (k : Int) < l.length := by omega
   clear hY hN hall hSh
   go_wp2_with fail
   go_ret
   exact ⟨⟨_,rfl,hn'.out⟩,hb⟩

theorem fcheck_any (v : Value) (l : List Sl) (r : Sl) (hl : l.length ≤ 9223372036854775807) (w : World) (hS : SlsAt w v l) :
  Calls Tryz.prog 25 #[v,.agg (slL r).toArray] w fun e w' => e = .returned (.int .i64 (ckS l r)) ∧ Below w.heap.size w w' := by
 have hB := (Below.refl w.heap.size w).alloc (Nat.le_refl _) (.cells (slL r).toArray 29)
 have hS1 := hS.below hB (Nat.le_refl _)
 have hm : Hid (Calls Tryz.prog 55 #[.agg (slL r).toArray] (w.alloc (.cells (slL r).toArray 29)) fun e w' => e = .returned (.bool (!okS r)) ∧ Below (w.alloc (.cells (slL r).toArray 29)).heap.size (w.alloc (.cells (slL r).toArray 29)) w') := mayNot_any r _
 have hc : Hid (∀ W,Below (w.alloc (.cells (slL r).toArray 29)).heap.size (w.alloc (.cells (slL r).toArray 29)) W → Calls Tryz.prog 56 #[v,.func (.func 55) #[] #[]] W fun e w' => e = .returned (.bool (!l.all okS)) ∧ Below W.heap.size W w') := fun W hW => by
  have hi : Hid (Calls Tryz.prog 95 #[v,.func (.func 55) #[] #[]] W fun e w' => (∃ n : Int,e = .returned (.int .i64 n) ∧ decide (0 ≤ n) = !l.all okS) ∧ Below W.heap.size W w') := sindex_any v l hl W (hS1.below hW (Nat.le_refl _))
  obtain ⟨a,cap,rfl,-⟩ := hS.ex
  show Calls Tryz.prog 56 _ _ _
  clear hS hS1 hm hB
  generalize (!l.all okS) = q at *
  go_enter Tryz.func56,Tryz.ntmps56
  go_wp2_with (go_at_call 95; refine hi.out.mono ?_; rintro e w' ⟨⟨n,rfl,hn⟩,hb2⟩)
  go_ret
  exact ⟨by rw [← hn]; rfl,hb2⟩
 obtain ⟨a,cap,rfl,-⟩ := hS.ex
 clear hS hS1
 have hck : Hid (ckS l r = if 256 < l.length then 3 else if okS r = true ∧ l.all okS = true then 0 else 2) := rfl
 generalize hk : ckS l r = ck at *
 obtain ⟨x,y⟩ := r
 unfold slL at *
 simp only at *
 generalize hw1 : w.alloc (.cells [Value.int .i64 x,.int .i64 y].toArray 29) = w1 at *
 have hx1 : w1.cell? ⟨w.heap.size,0,none⟩ = some (.int .i64 x) := by rw [← hw1,Lib.cell_of_heap (World.alloc_heap_new w _)]; rfl
 have hy1 : w1.cell? ⟨w.heap.size,1,none⟩ = some (.int .i64 y) := by rw [← hw1,Lib.cell_of_heap (World.alloc_heap_new w _)]; rfl
 by_cases h1 : 256 < l.length
 ·have h1' : (256 : Int) < l.length := by omega
  have e : ck = 3 := by rw [hck.out,if_pos h1]
  subst e
  clear hm hc hck
  go_enter Tryz.func25,Tryz.ntmps25
  go_wp2_with fail
  go_ret
  exact ⟨rfl,hB⟩
 ·have h1' : ¬ (256 : Int) < l.length := by omega
  have e : Hid (ck = if okS ⟨x,y⟩ = true ∧ l.all okS = true then 0 else 2) := by show ck = _; rw [hck.out,if_neg h1]
  clear hck h1
  cases ho : okS ⟨x,y⟩ with
  | false =>
   have e2 : ck = 2 := by rw [e.out,ho,if_neg (by simp)]
   subst e2
   rw [ho] at hm
   clear e ho hc
   go_enter Tryz.func25,Tryz.ntmps25
   go_wp2_with (go_at_call 55; refine hm.out.mono ?_; rintro e w' ⟨rfl,hb2⟩)
   go_ret
   exact ⟨rfl,hB.trans (hb2.mono hB.size)⟩
  | true =>
   rw [ho] at hm
   cases ha : l.all okS with
   | false =>
    have e2 : ck = 2 := by rw [e.out,ho,ha,if_neg (by simp)]
    subst e2
    rw [ha] at hc
    clear e ho ha
    go_enter Tryz.func25,Tryz.ntmps25
    go_wp2_with (first | (go_at_call 55; refine hm.out.mono ?_; rintro e w2 ⟨rfl,hb2⟩) | (go_at_call 56; refine (hc.out w2 hb2).mono ?_; rintro e w3 ⟨rfl,hb3⟩))
    go_ret
    exact ⟨rfl,hB.trans ((hb2.trans (hb3.mono hb2.size)).mono hB.size)⟩
   | true =>
    have e2 : ck = 0 := by rw [e.out,ho,ha,if_pos (by simp)]
    subst e2
    rw [ha] at hc
    clear e ho ha
    go_enter Tryz.func25,Tryz.ntmps25
    go_wp2_with (first | (go_at_call 55; refine hm.out.mono ?_; rintro e w2 ⟨rfl,hb2⟩) | (go_at_call 56; refine (hc.out w2 hb2).mono ?_; rintro e w3 ⟨rfl,hb3⟩))
    go_ret
    exact ⟨rfl,hB.trans ((hb2.trans (hb3.mono hb2.size)).mono hB.size)⟩

theorem below2 (w : World) (x y : Obj) : Below w.heap.size w ((w.alloc x).alloc y) := ((Below.refl w.heap.size w).alloc (Nat.le_refl _) x).alloc (by simp) y

theorem alloc2_heap (w : World) (x y : Obj) : ((w.alloc x).alloc y).heap[w.heap.size + 1]? = some y := by
 have := World.alloc_heap_new (w.alloc x) y
 rwa [World.size_alloc] at this
theorem info25 (x y : Value) : (Tryz.prog.info? 29).map (·.size) = some (#[x,y] : Array Value).size := by show _ = some 2; kernel_rfl

theorem fslot_any (v : Value) (l : List Sl) (r : Sl) (n : Int) (_hl : l.length ≤ 9223372036854775807) (w : World) (hS : SlsAt w v l) :
  Calls Tryz.prog 33 #[v,.agg (slL r).toArray,.int .i64 n] w fun e w' => e = .returned (.agg (slL (slI l r n)).toArray) ∧ Below w.heap.size w w' := by
 obtain ⟨x,y⟩ := r
 obtain ⟨a,cap,rfl,-⟩ := hS.ex
 have hSh : Hid (SlsAt w (.slice a l.length cap) l) := hS
 clear hS
 show Calls Tryz.prog 33 #[.slice a l.length cap,.agg #[.int .i64 x,.int .i64 y],.int .i64 n] w _
 by_cases h0 : n < 0
 ·have e : slI l ⟨x,y⟩ n = ⟨0,0⟩ := if_pos h0
  rw [e]
  clear e hSh
  go_enter Tryz.func33,Tryz.ntmps33
  go_wp2_with fail
  exact bodyPost_ret (results_cell_row rfl _ _ (w.heap.size + 1) 29 _ (0,0) _ rfl (alloc2_heap w _ _) Tryz.underlying29 rfl (info25 _ _)) rfl ⟨rfl,below2 w _ _⟩
 ·obtain ⟨k,rfl⟩ : ∃ k : Nat,n = k := ⟨n.toNat,by omega⟩
  rw [slI_nat]
  by_cases hk : k < l.length
  ·rw [slN_in hk]
   have hk' : (k : Int) < l.length := by omega
   obtain ⟨b,o,rfl,hbl,hit⟩ := sls_at hSh.out hk
   obtain ⟨c0,c1⟩ := hit _ (below2 w (.cells #[.int .i64 x,.int .i64 y] 29) (.cells #[.int .i64 0,.int .i64 0] 29))
   clear hit hSh
   generalize l[k] = s at *
   obtain ⟨x1,y1⟩ := s
   simp only at c0 c1
   go_enter Tryz.func33,Tryz.ntmps33
   go_wp2_with fail
   exact bodyPost_ret (results_cell_row rfl _ _ (w.heap.size + 1) 29 _ (0,0) _ rfl (alloc2_heap w _ _) Tryz.underlying29 rfl (info25 _ _)) rfl ⟨rfl,below2 w _ _⟩
  ·rw [slN_out (by omega)]
   have hk' : ¬ (k : Int) < l.length := by omega
   clear hSh
   go_enter Tryz.func33,Tryz.ntmps33
   go_wp2_with fail
   exact bodyPost_ret (results_cell_row rfl _ _ (w.heap.size + 1) 29 _ (0,0) _ rfl (alloc2_heap w _ _) Tryz.underlying29 rfl (info25 _ _)) rfl ⟨rfl,below2 w _ _⟩

end Go.Proofs.YtfndocmgonlhpaaGreatDoor

namespace Go.Proofs.YtfndocmgonlhpaaGreatDoor
open Go.RowKit Go.Shelf
set_option maxRecDepth 100000
set_option maxHeartbeats 2000000

theorem begin1_any (x : It) (w : World) : Calls Tryz.prog 28 #[.agg (itL x).toArray] w fun e w' => e = .returned (.bool (!(x.k == 2))) ∧ Below w.heap.size w w' := by
 obtain ⟨k0,f0,t0,w0,s0,h0,q0,y0⟩ := x
 have hB := (Below.refl w.heap.size w).alloc (Nat.le_refl _) (.cells #[.int .i64 k0,.int .i64 f0,.int .i64 t0,.int .i64 w0,.int .i64 s0,.int .i64 h0,.int .i64 q0,.bool y0] 74)
 show Calls Tryz.prog 28 #[.agg #[.int .i64 k0,.int .i64 f0,.int .i64 t0,.int .i64 w0,.int .i64 s0,.int .i64 h0,.int .i64 q0,.bool y0]] w _
 go_enter Tryz.func28,Tryz.ntmps28
 go_wp2_with fail
 go_ret
 exact ⟨rfl,hB⟩
theorem sk_at {l : List It} : ∀ n i k,i ≤ k → k < l.length → k < i + n → (∀ j,i ≤ j → j < k → (itAt l j).k = 2) → (itAt l k).k ≠ 2 → skG l n i = k
 | 0,i,k,h1,_,h2,_,_ => by omega
 | n + 1, i, k, h1, hk, h2, h3, h4 => by
  by_cases e : i = k
  ·subst e
   exact skG_no (fun h => h4 h.2)
  ·rw [skG_go ⟨by omega,h3 i (Nat.le_refl _) (by omega)⟩]
   exact sk_at n (i + 1) k (by omega) hk (by omega) (fun j h5 h6 => h3 j (by omega) h6) h4
theorem sk_all {l : List It} : ∀ n i,i ≤ l.length → l.length ≤ i + n → (∀ j,i ≤ j → j < l.length → (itAt l j).k = 2) → skG l n i = l.length
 | 0,i,h1,h2,_ => by show i = _; omega
 | n + 1, i, h1, h2, h3 => by
  by_cases e : i = l.length
  ·rw [skG_no (by omega)]; exact e
  ·rw [skG_go ⟨by omega,h3 i (Nat.le_refl _) (by omega)⟩]
   exact sk_all n (i + 1) (by omega) (by omega) (fun j h5 h6 => h3 j (by omega) h6)

theorem bindex_any (v : Value) (l : List It) (hl : l.length ≤ 9223372036854775807) (w : World) (hS : ItsAt w v l) :
  Calls Tryz.prog 27 #[v,.func (.func 28) #[] #[]] w fun e w' => (∃ n : Int,e = .returned (.int .i64 n) ∧ (if n < 0 then (l.length : Int) else n) = (sk l 0 : Nat)) ∧ Below w.heap.size w w' := by
 obtain ⟨a,cap,rfl,-⟩ := hS.ex
 have hY : Hid (∀ k (hk : k < l.length),(∀ j,j < k → (itAt l j).k = 2) → (l[k].k == 2) = false → (if ((k : Nat) : Int) < 0 then (l.length : Int) else (k : Nat)) = (sk l 0 : Nat)) := fun k hk h1 e => by
  rw [if_neg (by omega)]
  congr 1
  exact (sk_at _ 0 k (by omega) hk (by omega) (fun j _ h => h1 j h) (by rw [itAt_is hk]; simpa using e)).symm
 have hN : Hid ((∀ j,j < l.length → (itAt l j).k = 2) → (if (-1 : Int) < 0 then (l.length : Int) else -1) = (sk l 0 : Nat)) := fun h => by
  rw [if_pos (by decide)]
  congr 1
  exact (sk_all _ 0 (by omega) (by omega) (fun j _ hj => h j hj)).symm
 have hSh : Hid (ItsAt w (.slice a l.length cap) l) := hS
 clear hS
 generalize sk l 0 = r at hY hN ⊢
 go_enter Tryz.func27,Tryz.ntmps27
 go_wp2_with fail
 go_loopw [8] (fun i wr => ∃ (k : Nat),k ≤ l.length ∧ i = .int .i64 k ∧ Below w.heap.size w wr ∧ Hid (∀ j,j < k → (itAt l j).k = 2)) (fun i _ => l.length - (intOf i).toNat)
 case atStart => exact ⟨0,by omega,rfl,Below.refl _ _,fun j hj => by omega⟩
 case round =>
  obtain ⟨k,hk,rfl,hb,hall⟩ := hrel
  by_cases hlt : k < l.length
  ·obtain ⟨b,o,rfl,hbl,hit⟩ := its_at hSh.out hlt
   have hi := hit wr hb
   have c0 := hi.c0
   have c1 := hi.c1
   have c2 := hi.c2
   have c3 := hi.c3
   have c4 := hi.c4
   have c5 := hi.c5
   have c6 := hi.c6
   have c7 := hi.c7
   have hlt' : (k : Int) < l.length := by omega
   have hm := begin1_any l[k] wr
   have hyes : Hid ((l[k].k == 2) = false → (if ((k : Nat) : Int) < 0 then (l.length : Int) else (k : Nat)) = (r : Nat)) := hY.out k hlt hall.out
   have hno : Hid ((l[k].k == 2) = true → ∀ j,j < k + 1 → (itAt l j).k = 2) := fun hv j hjk => by
    by_cases h : j < k
    ·exact hall.out j h
    ·obtain rfl : j = k := by omega
     rw [itAt_is hlt]; simpa using hv
   clear hY hN hall hit hSh hi
   generalize l[k] = it at *
   obtain ⟨k0,f0,t0,w0,s0,h0,q0,y0⟩ := it
   simp only at c0 c1 c2 c3 c4 c5 c6 c7 hm hyes hno
   have hm' : Hid (Calls Tryz.prog 28 #[.agg #[.int .i64 k0,.int .i64 f0,.int .i64 t0,.int .i64 w0,.int .i64 s0,.int .i64 h0,.int .i64 q0,.bool y0]] wr fun e w' => e = .returned (.bool (!(k0 == 2))) ∧ Below wr.heap.size wr w') := hm
   clear hm
   cases hv : (k0 == 2) with
   | false =>
    have hn' : Hid ((if ((k : Nat) : Int) < 0 then (l.length : Int) else (k : Nat)) = (r : Nat)) := hyes.out hv
    rw [hv] at hm'
    clear hyes hno hv
    go_wp2_with (go_at_call 28; refine hm'.out.mono ?_; rintro e w' ⟨rfl,hb2⟩)
    go_ret
    exact ⟨⟨_,rfl,hn'.out⟩,hb.trans (hb2.mono hb.size)⟩
   | true =>
    have hn : Hid (∀ j,j < k + 1 → (itAt l j).k = 2) := hno.out hv
    rw [hv] at hm'
    clear hyes hno hv
    go_wp2_with (go_at_call 28; refine hm'.out.mono ?_; rintro e w' ⟨rfl,hb2⟩)
    go_roundw
    case rel => exact ⟨k + 1,by omega,by simp,hb.trans (hb2.mono hb.size),hn⟩
    case measure => simp [intOf]; omega
  ·have hn' : Hid ((if (-1 : Int) < 0 then (l.length : Int) else -1) = (r : Nat)) := hN.out (fun j hj => hall.out j (by omega))
   have hge : ¬ (k : Int) < l.length := by omega
   clear hY hN hall hSh
   go_wp2_with fail
   go_ret
   exact ⟨⟨_,rfl,hn'.out⟩,hb⟩

theorem begin_any (v : Value) (l : List It) (hl : l.length ≤ 9223372036854775807) (w : World) (hS : ItsAt w v l) :
  Calls Tryz.prog 11 #[v] w fun e w' => e = .returned (.int .i64 (sk l 0 : Nat)) ∧ Below w.heap.size w w' := by
 have hi : Hid (Calls Tryz.prog 27 #[v,.func (.func 28) #[] #[]] w fun e w' => (∃ n : Int,e = .returned (.int .i64 n) ∧ (if n < 0 then (l.length : Int) else n) = (sk l 0 : Nat)) ∧ Below w.heap.size w w') := bindex_any v l hl w hS
 obtain ⟨a,cap,rfl,-⟩ := hS.ex
 clear hS
 generalize sk l 0 = r at *
 go_enter Tryz.func11,Tryz.ntmps11
 go_wp2_with (go_at_call 27; refine hi.out.mono ?_; rintro e w' ⟨⟨n,rfl,hn⟩,hb2⟩)
 all_goals (go_ret; first | (rw [if_pos (by omega)] at hn; exact ⟨by rw [← hn]; rfl,hb2⟩) | (rw [if_neg (by omega)] at hn; exact ⟨by rw [← hn]; rfl,hb2⟩))

end Go.Proofs.YtfndocmgonlhpaaGreatDoor

namespace Go.Proofs.YtfndocmgonlhpaaGreatDoor
open Go.RowKit Go.Shelf
set_option maxRecDepth 100000
set_option maxHeartbeats 2000000

def lpB (l : List It) : Bool := l.any (fun x => x.k == 4)
theorem leaps1_any (x : It) (w : World) : Calls Tryz.prog 58 #[.agg (itL x).toArray] w fun e w' => e = .returned (.bool (x.k == 4)) ∧ Below w.heap.size w w' := by
 obtain ⟨k0,f0,t0,w0,s0,h0,q0,y0⟩ := x
 have hB := (Below.refl w.heap.size w).alloc (Nat.le_refl _) (.cells #[.int .i64 k0,.int .i64 f0,.int .i64 t0,.int .i64 w0,.int .i64 s0,.int .i64 h0,.int .i64 q0,.bool y0] 74)
 show Calls Tryz.prog 58 #[.agg #[.int .i64 k0,.int .i64 f0,.int .i64 t0,.int .i64 w0,.int .i64 s0,.int .i64 h0,.int .i64 q0,.bool y0]] w _
 go_enter Tryz.func58,Tryz.ntmps58
 go_wp2_with fail
 go_ret
 exact ⟨rfl,hB⟩
theorem any_no {l : List It} (h : ∀ i (hi : i < l.length),(l[i].k == 4) = false) : lpB l = false := by
 unfold lpB
 rw [List.any_eq_false]
 intro x hx
 obtain ⟨i,hi,rfl⟩ := List.getElem_of_mem hx
 rw [h i hi]; decide
theorem any_yes {l : List It} {i : Nat} (hi : i < l.length) (h : (l[i].k == 4) = true) : lpB l = true := List.any_eq_true.2 ⟨l[i],List.getElem_mem hi,h⟩

theorem lindex_any (v : Value) (l : List It) (hl : l.length ≤ 9223372036854775807) (w : World) (hS : ItsAt w v l) :
  Calls Tryz.prog 27 #[v,.func (.func 58) #[] #[]] w fun e w' => (∃ n : Int,e = .returned (.int .i64 n) ∧ decide (0 ≤ n) = lpB l) ∧ Below w.heap.size w w' := by
 obtain ⟨a,cap,rfl,-⟩ := hS.ex
 have hY : Hid (∀ k (hk : k < l.length),(l[k].k == 4) = true → decide ((0 : Int) ≤ (k : Nat)) = lpB l) := fun k hk e => by rw [any_yes hk e]; simp
 have hN : Hid ((∀ k (hk : k < l.length),(l[k].k == 4) = false) → decide ((0 : Int) ≤ -1) = lpB l) := fun h => by rw [any_no h]; simp
 have hSh : Hid (ItsAt w (.slice a l.length cap) l) := hS
 clear hS
 generalize lpB l = r at hY hN ⊢
 go_enter Tryz.func27,Tryz.ntmps27
 go_wp2_with fail
 go_loopw [8] (fun i wr => ∃ (k : Nat),k ≤ l.length ∧ i = .int .i64 k ∧ Below w.heap.size w wr ∧ Hid (∀ j (hj : j < l.length),j < k → (l[j].k == 4) = false)) (fun i _ => l.length - (intOf i).toNat)
 case atStart => exact ⟨0,by omega,rfl,Below.refl _ _,fun j _ hj => by omega⟩
 case round =>
  obtain ⟨k,hk,rfl,hb,hall⟩ := hrel
  by_cases hlt : k < l.length
  ·obtain ⟨b,o,rfl,hbl,hit⟩ := its_at hSh.out hlt
   have hi := hit wr hb
   have c0 := hi.c0
   have c1 := hi.c1
   have c2 := hi.c2
   have c3 := hi.c3
   have c4 := hi.c4
   have c5 := hi.c5
   have c6 := hi.c6
   have c7 := hi.c7
   have hlt' : (k : Int) < l.length := by omega
   have hm := leaps1_any l[k] wr
   have hyes : Hid ((l[k].k == 4) = true → decide ((0 : Int) ≤ (k : Nat)) = r) := hY.out k hlt
   have hno : Hid ((l[k].k == 4) = false → ∀ j (hj : j < l.length),j < k + 1 → (l[j].k == 4) = false) := fun hv j hj hjk => by
    by_cases h : j < k
    ·exact hall.out j hj h
    ·obtain rfl : j = k := by omega
     exact hv
   clear hY hN hall hit hSh hi
   generalize l[k] = it at *
   obtain ⟨k0,f0,t0,w0,s0,h0,q0,y0⟩ := it
   simp only at c0 c1 c2 c3 c4 c5 c6 c7 hm hyes hno
   have hm' : Hid (Calls Tryz.prog 58 #[.agg #[.int .i64 k0,.int .i64 f0,.int .i64 t0,.int .i64 w0,.int .i64 s0,.int .i64 h0,.int .i64 q0,.bool y0]] wr fun e w' => e = .returned (.bool (k0 == 4)) ∧ Below wr.heap.size wr w') := hm
   clear hm
   cases hv : (k0 == 4) with
   | true =>
    have hn := hyes.out hv
    rw [hv] at hm'
    clear hyes hno hv
    have hn' : Hid (decide ((0 : Int) ≤ (k : Nat)) = r) := hn
    clear hn
    go_wp2_with (go_at_call 58; refine hm'.out.mono ?_; rintro e w' ⟨rfl,hb2⟩)
    go_ret
    exact ⟨⟨_,rfl,hn'.out⟩,hb.trans (hb2.mono hb.size)⟩
   | false =>
    have hn : Hid (∀ j (hj : j < l.length),j < k + 1 → (l[j].k == 4) = false) := hno.out hv
    rw [hv] at hm'
    clear hyes hno hv
    go_wp2_with (go_at_call 58; refine hm'.out.mono ?_; rintro e w' ⟨rfl,hb2⟩)
    go_roundw
    case rel => exact ⟨k + 1,by omega,by simp,hb.trans (hb2.mono hb.size),hn⟩
    case measure => simp [intOf]; omega
  ·have hn := hN.out (fun j hj => hall.out j hj (by omega))
   have hn' : Hid (decide ((0 : Int) ≤ -1) = r) := hn
   have hge : ¬ (k : Int) < l.length := by omega
   clear hY hN hall hSh hn
   go_wp2_with fail
   go_ret
   exact ⟨⟨_,rfl,hn'.out⟩,hb⟩

theorem leaps_any (v : Value) (l : List It) (hl : l.length ≤ 9223372036854775807) (w : World) (hS : ItsAt w v l) :
  Calls Tryz.prog 26 #[v] w fun e w' => e = .returned (.bool (lpB l)) ∧ Below w.heap.size w w' := by
 have hi : Hid (Calls Tryz.prog 27 #[v,.func (.func 58) #[] #[]] w fun e w' => (∃ n : Int,e = .returned (.int .i64 n) ∧ decide (0 ≤ n) = lpB l) ∧ Below w.heap.size w w') := lindex_any v l hl w hS
 obtain ⟨a,cap,rfl,-⟩ := hS.ex
 clear hS
 have hcf : Hid (Calls Tryz.prog 57 #[.slice a l.length cap,.func (.func 58) #[] #[]] w fun e w' => e = .returned (.bool (lpB l)) ∧ Below w.heap.size w w') := by
  show Calls Tryz.prog 57 _ _ _
  generalize lpB l = r at *
  go_enter Tryz.func57,Tryz.ntmps57
  go_wp2_with (go_at_call 27; refine hi.out.mono ?_; rintro e w' ⟨⟨n,rfl,hn⟩,hb2⟩)
  go_ret
  exact ⟨by rw [← hn]; rfl,hb2⟩
 clear hi
 generalize lpB l = r at *
 go_enter Tryz.func26,Tryz.ntmps26
 go_wp2_with (go_at_call 57; refine hcf.out.mono ?_; rintro e w' ⟨rfl,hb2⟩)
 go_ret
 exact ⟨rfl,hb2⟩


theorem slice26 (a : Option Addr) (n cap f t : Nat) (h1 : f ≤ t) (h2 : t ≤ cap) : ∃ a',(∀ W : World,(Instr.slice 26 (.slice a n cap) (some (.int .i64 (f : Int))) (some (.int .i64 (t : Int))) none).run Tryz.prog W = .ok (.slice a' (t - f) (cap - f)) W) ∧ (∀ b o,a = some ⟨b,o,none⟩ → f < t → a' = some ⟨b,o + f * 8,none⟩) := by
 have he : Tryz.prog.elem 26 = 74 := by kernel_rfl
 have hu : Tryz.prog.underlying 26 = some (.slice (Tryz.prog.elem 26)) := by rw [he]; exact Tryz.underlying26
 have hr := fun W => run_slice_lh (P := Tryz.prog) (w := W) 26 a n cap hu .i64 .i64 f t (by omega) (by omega) (by omega)
 have hs : ∀ W,(sizeOf (Tryz.prog.elem 26)).run Tryz.prog W = .ok 8 W := fun W => by kernel_rfl
 simp only [hs,Result.andThen,sliced,Int.toNat_natCast] at hr
 refine ⟨_,hr,fun b o e hlt => ?_⟩
 rw [if_neg (by omega),e]
 simp [addr_add]
theorem low26 (a : Option Addr) (n cap f : Nat) (h1 : f ≤ n) (h2 : n ≤ cap) : ∃ a',(∀ W : World,(Instr.slice 26 (.slice a n cap) (some (.int .i64 (f : Int))) none none).run Tryz.prog W = .ok (.slice a' (n - f) (cap - f)) W) ∧ ∀ b o,a = some ⟨b,o,none⟩ → f < n → a' = some ⟨b,o + f * 8,none⟩ := by
 have he : Tryz.prog.elem 26 = 74 := by kernel_rfl
 have hu : Tryz.prog.underlying 26 = some (.slice (Tryz.prog.elem 26)) := by rw [he]; exact Tryz.underlying26
 have hr := fun W => run_slice_l (P := Tryz.prog) (w := W) 26 a n cap hu .i64 f (by omega) (by omega)
 have hs : ∀ W,(sizeOf (Tryz.prog.elem 26)).run Tryz.prog W = .ok 8 W := fun W => by kernel_rfl
 simp only [hs,Result.andThen,sliced,Int.toNat_natCast] at hr
 refine ⟨_,hr,fun b o e hlt => ?_⟩
 rw [if_neg (by omega),e]
 simp [addr_add]
theorem legal30_any (v : Value) (l : List It) (b : Nat) (h : ckL l = 0) (h0 : 0 < b) (hb : b ≤ l.length) (w : World) (hS : ItsAt w v l) :
  Calls Tryz.prog 30 #[v,.int .i64 b] w fun e w' => e = .returned (.bool (enB l b)) ∧ Below w.heap.size w w' := by
 obtain ⟨a,cap,rfl,-⟩ := hS.ex
 have hle := hS.le _ _ _ rfl
 have h8 := ck_len h
 have hm : min (b + 1) l.length ≤ l.length := Nat.min_le_right _ _
 have hmb : b - 1 ≤ min (b + 1) l.length := by omega
 obtain ⟨a',hr,ha'⟩ := slice26 a l.length cap (b - 1) (min (b + 1) l.length) hmb (by omega)
 have hI := sub_its hS hmb hm (fun g o e h => ha' g o e h)
 have hL : Hid (Calls Tryz.prog 59 #[.slice a' (min (b + 1) l.length - (b - 1)) (cap - (b - 1)),.int .i64 1] w fun e w' => e = .returned (.bool (enB l b)) ∧ Below w.heap.size w w') := by
  have := legal_any _ _ 1 w hI
  rw [sub_legal h h0 hb] at this
  exact this
 have hr1 : ∀ m : Int,m = (min (b + 1) l.length : Nat) → (Instr.slice 26 (.slice a l.length cap) (some (.int .i64 ((b : Int) - 1))) (some (.int .i64 m)) none).run Tryz.prog w = .ok (.slice a' (min (b + 1) l.length - (b - 1)) (cap - (b - 1))) w := fun m e => by
  have := hr w
  rwa [show ((b - 1 : Nat) : Int) = (b : Int) - 1 by omega,← e] at this
 have h1' : (1 : Int) ≤ b := by omega
 have hb' : (b : Int) ≤ 8192 := by omega
 have hl' : (l.length : Int) ≤ 8192 := by omega
 by_cases hlt : b < l.length
 ·have hr2 := hr1 ((b : Int) + 1) (by rw [Nat.min_eq_left (by omega)]; omega)
  have hlt' : (b : Int) + 1 ≤ l.length := by omega
  clear hI hS hr ha' hmb hm h h8 hle hr1
  generalize min (b + 1) l.length = m at *
  generalize enB l b = q at *
  go_enter Tryz.func30,Tryz.ntmps30
  go_wp2_with (go_at_call 59; refine hL.out.mono ?_; rintro e w' ⟨rfl,hb2⟩)
  all_goals first | (exfalso; omega) | (go_ret; exact ⟨rfl,hb2⟩)
 ·have hr2 := hr1 (l.length : Int) (by rw [Nat.min_eq_right (by omega)])
  have hlt' : (l.length : Int) < (b : Int) + 1 := by omega
  clear hI hS hr ha' hmb hm h h8 hle hr1
  generalize min (b + 1) l.length = m at *
  generalize enB l b = q at *
  go_enter Tryz.func30,Tryz.ntmps30
  go_wp2_with (go_at_call 59; refine hL.out.mono ?_; rintro e w' ⟨rfl,hb2⟩)
  all_goals first | (exfalso; omega) | (go_ret; exact ⟨rfl,hb2⟩)
theorem sk_le {l : List It} : ∀ n i,i ≤ l.length → i ≤ skG l n i ∧ skG l n i ≤ l.length
 | 0,i,h => ⟨Nat.le_refl _,h⟩
 | n + 1, i, h => by
  unfold skG
  split
  ·rename_i h1
   have := sk_le (l := l) n (i + 1) (by omega)
   omega
  ·exact ⟨Nat.le_refl _,h⟩
theorem bg_le {l : List It} {i : Nat} (h : i ≤ l.length) : i ≤ bgN l i ∧ bgN l i ≤ l.length := by
 unfold bgN
 split
 ·have := sk_le (l := l) (l.length + 1) (i + 1) (by omega)
  omega
 ·exact sk_le _ _ h
theorem bg_end (l : List It) : bgN l l.length = l.length := by have := bg_le (Nat.le_refl l.length); omega
theorem skG_is {l : List It} : ∀ n i,i ≤ l.length → l.length ≤ i + n → (i ≤ skG l n i ∧ skG l n i ≤ l.length) ∧ (∀ j,i ≤ j → j < skG l n i → (itAt l j).k = 2) ∧ (skG l n i = l.length ∨ (itAt l (skG l n i)).k ≠ 2)
 | 0,i,h1,h2 => ⟨⟨Nat.le_refl _,h1⟩,fun j h3 h4 => by unfold skG at h4; omega,.inl (by unfold skG; omega)⟩
 | n + 1, i, h1, h2 => by
  by_cases h : i < l.length ∧ (itAt l i).k = 2
  ·rw [skG_go h]
   obtain ⟨⟨a1,a2⟩,a3,a4⟩ := skG_is (l := l) n (i + 1) (by omega) (by omega)
   exact ⟨⟨by omega,a2⟩,fun j h3 h4 => if e : j = i then by rw [e]; exact h.2 else a3 j (by omega) h4,a4⟩
  ·rw [skG_no h]
   exact ⟨⟨Nat.le_refl _,h1⟩,fun j h3 h4 => by omega,if e : i = l.length then .inl e else .inr (fun h' => h ⟨by omega,h'⟩)⟩
theorem skG_one {l : List It} {n i k : Nat} (h1 : i ≤ k) (h2 : k ≤ l.length) (h3 : ∀ j,i ≤ j → j < k → (itAt l j).k = 2) (h4 : k = l.length ∨ (itAt l k).k ≠ 2) (hn : l.length ≤ i + n) : skG l n i = k := by
 obtain ⟨⟨a1,a2⟩,a3,a4⟩ := skG_is n i (by omega) hn
 by_cases e : skG l n i < k
 ·exfalso
  rcases a4 with a4 | a4
  ·omega
  ·exact a4 (h3 _ a1 e)
 ·by_cases e' : k < skG l n i
  ·exfalso
   rcases h4 with h4 | h4
   ·omega
   ·exact h4 (a3 _ h1 e')
  ·omega
theorem nx_math {l : List It} {b e : Nat} (hb : b ≤ l.length) (he : e = min (b + 1) l.length + sk (subL l (min (b + 1) l.length) l.length) 0) : (b ≤ e ∧ e ≤ l.length ∧ min (b + 1) l.length ≤ e) ∧ b + bgN (subL l b e) 0 = bgN l b := by
 have hm : min (b + 1) l.length ≤ l.length := Nat.min_le_right _ _
 have hl1 := sub_len (l := l) (f := min (b + 1) l.length) (Nat.le_refl l.length)
 obtain ⟨⟨a1,a2⟩,a3,a4⟩ := skG_is (l := subL l (min (b + 1) l.length) l.length) ((subL l (min (b + 1) l.length) l.length).length + 1) 0 (by omega) (by omega)
 have hsk : sk (subL l (min (b + 1) l.length) l.length) 0 = skG (subL l (min (b + 1) l.length) l.length) ((subL l (min (b + 1) l.length) l.length).length + 1) 0 := rfl
 rw [← hsk,hl1] at a2
 rw [← hsk] at a3
 rw [← hsk,hl1] at a4
 have hel : e ≤ l.length := by omega
 refine ⟨⟨by omega,hel,by omega⟩,?_⟩
 by_cases hlt : b < l.length
 ·rw [Nat.min_eq_left (by omega)] at he a2 a3 a4
  have g3 : ∀ j,b + 1 ≤ j → j < e → (itAt l j).k = 2 := fun j h1 h2 => by
   have := a3 (j - (b + 1)) (by omega) (by omega)
   rwa [sub_at (Nat.le_refl _) (by omega),show b + 1 + (j - (b + 1)) = j by omega] at this
  have g4 : e = l.length ∨ (itAt l e).k ≠ 2 := by
   by_cases h : e = l.length
   ·exact .inl h
   ·right
    rcases a4 with a4 | a4
    ·omega
    ·rw [sub_at (Nat.le_refl _) (by omega),show b + 1 + sk (subL l (b + 1) l.length) 0 = e by omega] at a4
     exact a4
  have hl2 := sub_len (l := l) (f := b) hel
  have e0 : itAt (subL l b e) 0 = itAt l b := by rw [sub_at hel (by omega)]; rfl
  have ej : ∀ j,b + j < e → itAt (subL l b e) j = itAt l (b + j) := fun j h => sub_at hel h
  by_cases k3 : (itAt l b).k = 3
  ·have x1 : bgN l b = e := by
    unfold bgN
    rw [if_pos ⟨hlt,k3⟩]
    exact skG_one (by omega) hel g3 g4 (by omega)
   have x2 : bgN (subL l b e) 0 = e - b := by
    unfold bgN
    rw [if_pos ⟨by omega,by rw [e0]; exact k3⟩]
    exact skG_one (by omega) (by omega) (fun j h1 h2 => by rw [ej j (by omega)]; exact g3 _ (by omega) (by omega)) (.inl hl2.symm) (by omega)
   omega
  ·by_cases k2 : (itAt l b).k = 2
   ·have g3' : ∀ j,b ≤ j → j < e → (itAt l j).k = 2 := fun j h1 h2 => if h : j = b then by rw [h]; exact k2 else g3 j (by omega) h2
    have x1 : bgN l b = e := by
     unfold bgN
     rw [if_neg (fun h => k3 h.2)]
     exact skG_one (by omega) hel g3' g4 (by omega)
    have x2 : bgN (subL l b e) 0 = e - b := by
     unfold bgN
     rw [if_neg (fun h => k3 (by rw [← e0]; exact h.2))]
     exact skG_one (by omega) (by omega) (fun j h1 h2 => by rw [ej j (by omega)]; exact g3' _ (by omega) (by omega)) (.inl hl2.symm) (by omega)
    omega
   ·have x1 : bgN l b = b := by
     unfold bgN
     rw [if_neg (fun h => k3 h.2)]
     exact skG_no (fun h => k2 h.2)
    have x2 : bgN (subL l b e) 0 = 0 := by
     unfold bgN
     rw [if_neg (fun h => k3 (by rw [← e0]; exact h.2))]
     exact skG_no (fun h => k2 (by rw [← e0]; exact h.2))
    omega
 ·obtain rfl : b = l.length := by omega
  rw [bg_end]
  have he' : e = l.length := by omega
  have hl2 := sub_len (l := l) (f := l.length) hel
  rw [he'] at hl2
  have := bg_le (l := subL l l.length e) (i := 0) (by omega)
  rw [he'] at this ⊢
  omega
end Go.Proofs.YtfndocmgonlhpaaGreatDoor

namespace Go.Proofs.YtfndocmgonlhpaaGreatDoor
open Go.RowKit Go.Shelf
set_option maxRecDepth 100000
set_option maxHeartbeats 400000

theorem next60_any (v : Value) (l : List It) (b : Nat) (h : ckL l = 0) (hb : b ≤ l.length) (w : World) (hS : ItsAt w v l) :
  Calls Tryz.prog 60 #[v,.int .i64 b] w fun e w' => e = .returned (.int .i64 (bgN l b : Nat)) ∧ Below w.heap.size w w' := by
 obtain ⟨a,cap,rfl,-⟩ := hS.ex
 have hle := hS.le _ _ _ rfl
 have h8 := ck_len h
 have hm : min (b + 1) l.length ≤ l.length := Nat.min_le_right _ _
 obtain ⟨a1,hr1,ha1⟩ := low26 a l.length cap (min (b + 1) l.length) hm hle
 have hI1 := sub_its hS hm (Nat.le_refl _) (fun g o e h => ha1 g o e h)
 obtain ⟨⟨e1,e2,e3⟩,hnx⟩ := nx_math (l := l) hb rfl
 obtain ⟨a2,hr2,ha2⟩ := slice26 a l.length cap b (min (b + 1) l.length + sk (subL l (min (b + 1) l.length) l.length) 0) e1 (by omega)
 have hI2 := sub_its hS e1 e2 (fun g o e h => ha2 g o e h)
 have hl1 := sub_len (l := l) (f := min (b + 1) l.length) (Nat.le_refl l.length)
 have hB : Hid (Calls Tryz.prog 11 #[.slice a1 (l.length - min (b + 1) l.length) (cap - min (b + 1) l.length)] w fun e w' => e = .returned (.int .i64 (sk (subL l (min (b + 1) l.length) l.length) 0 : Nat)) ∧ Below w.heap.size w w') := begin_any _ _ (by rw [hl1]; omega) w hI1
 have hs0 : stV (subL l b (min (b + 1) l.length + sk (subL l (min (b + 1) l.length) l.length) 0)) 0 = (bgN (subL l b (min (b + 1) l.length + sk (subL l (min (b + 1) l.length) l.length) 0)) 0 : Nat) := by
  unfold stV
  rw [if_pos]
  ·rfl
  ·have hc := sub_ck h (f := b) e2
   unfold rfL
   rw [if_neg (by simpa using hc),if_pos (by omega)]
 have hst : Hid (∀ W,Below w.heap.size w W → Calls Tryz.prog 97 #[.slice a2 (min (b + 1) l.length + sk (subL l (min (b + 1) l.length) l.length) 0 - b) (cap - b),.int .i64 0] W fun e w' => (∃ er,e = .returned (.tuple #[.int .i64 (bgN (subL l b (min (b + 1) l.length + sk (subL l (min (b + 1) l.length) l.length) 0)) 0 : Nat),.int .i64 er])) ∧ Below W.heap.size W w') := fun W hW => by
  have := start_any _ _ 0 W (hI2.below hW (Nat.le_refl _))
  rw [hs0] at this
  exact this.mono fun e w' h => ⟨⟨_,h.1⟩,h.2⟩
 have hbg := bg_le hb
 generalize bgN (subL l b (min (b + 1) l.length + sk (subL l (min (b + 1) l.length) l.length) 0)) 0 = x at *
 generalize sk (subL l (min (b + 1) l.length) l.length) 0 = y at *
 have hq : (bgN l b : Int) ≤ 8192 := by omega
 have hbl : (b : Int) ≤ 8192 := by omega
 have hnn : (l.length : Int) ≤ 8192 := by omega
 have hx : Hid ((b : Int) + (x : Int) = (bgN l b : Nat)) := by show _ = _; omega
 have hx8 : (b : Int) + (x : Int) ≤ 8192 := by omega
 generalize bgN l b = q at *
 have hr2' : ∀ m : Int,m = (min (b + 1) l.length + y : Nat) → ∀ W,(Instr.slice 26 (.slice a l.length cap) (some (.int .i64 (b : Int))) (some (.int .i64 m)) none).run Tryz.prog W = .ok (.slice a2 (min (b + 1) l.length + y - b) (cap - b)) W := fun m e W => by rw [e]; exact hr2 W
 have hr1' : ∀ m : Int,m = (min (b + 1) l.length : Nat) → ∀ W,(Instr.slice 26 (.slice a l.length cap) (some (.int .i64 m)) none none).run Tryz.prog W = .ok (.slice a1 (l.length - min (b + 1) l.length) (cap - min (b + 1) l.length)) W := fun m e W => by rw [e]; exact hr1 W
 have hmin : Hid (min (b + 1) l.length = b + 1 ∨ min (b + 1) l.length = l.length) := by show _ ∨ _; omega
 clear hI1 hI2 hS hr1 hr2 ha1 ha2 hs0 hnx h hl1 hbg
 generalize l.length - min (b + 1) l.length = n1 at *
 generalize cap - min (b + 1) l.length = c1 at *
 generalize min (b + 1) l.length + y - b = n2 at *
 generalize cap - b = c2 at *
 by_cases hlt : b < l.length
 ·have em : min (b + 1) l.length = b + 1 := Nat.min_eq_left (by omega)
  have hr3 := hr1' ((b : Int) + 1) (by omega)
  have hr4 := hr2' ((b : Int) + 1 + y) (by omega)
  have hlt' : (b : Int) + 1 ≤ l.length := by omega
  have hy8 : (b : Int) + 1 + y ≤ 8192 := by omega
  clear hr1' hr2' em hmin e1 e2 e3 hm
  go_enter Tryz.func60,Tryz.ntmps60
  go_wp2_with (first | (go_at_call 11; refine hB.out.mono ?_; rintro e w2 ⟨rfl,hb2⟩) | (go_at_call 97; refine (hst.out w2 hb2).mono ?_; rintro e w3 ⟨⟨er,rfl⟩,hb3⟩))
  all_goals first | (exfalso; omega) | (go_ret; exact ⟨by rw [← hx.out]; rfl,hb2.trans (hb3.mono hb2.size)⟩)
 ·have em : min (b + 1) l.length = l.length := Nat.min_eq_right (by omega)
  have hr3 := hr1' (l.length : Int) (by omega)
  have hr4 := hr2' ((l.length : Int) + y) (by omega)
  have hlt' : (l.length : Int) < (b : Int) + 1 := by omega
  have hy8 : (l.length : Int) + y ≤ 8192 := by omega
  clear hr1' hr2' em hmin e1 e2 e3 hm
  go_enter Tryz.func60,Tryz.ntmps60
  go_wp2_with (first | (go_at_call 11; refine hB.out.mono ?_; rintro e w2 ⟨rfl,hb2⟩) | (go_at_call 97; refine (hst.out w2 hb2).mono ?_; rintro e w3 ⟨⟨er,rfl⟩,hb3⟩))
  all_goals first | (exfalso; omega) | (go_ret; exact ⟨by rw [← hx.out]; rfl,hb2.trans (hb3.mono hb2.size)⟩)
end Go.Proofs.YtfndocmgonlhpaaGreatDoor
