/-
  What is proved here: the lines of a way, as pieces of least tells them.
-/
import Derived.Test.YtfndocmgonlhpaaGreatDoorG32
namespace Go.Proofs.YtfndocmgonlhpaaGreatDoor
open Go.RowKit Go.Shelf
set_option maxRecDepth 100000
set_option maxHeartbeats 4000000

def pwL (P : Pl) (f : Nat × Nat → Option Wy) : Nat → Nat → Wy → List Pc
 | 0,_,_ => []
 | k + 1,b,y => pwL P f k y.f ((f (y.f,nuN P k)).getD wy0) ++ [pcS (P.sts.getD y.f st0) (P.sts.getD b st0) (P.wds.getD (nuN P k) 0)]
theorem pwL_len (P : Pl) (f : Nat × Nat → Option Wy) : ∀ k b y,(pwL P f k b y).length = k
 | 0,_,_ => rfl
 | k + 1,b,y => by unfold pwL; rw [List.length_append,pwL_len P f k,List.length_singleton]
theorem info46z : ∃ i z,Tryz.prog.info? 46 = some i ∧ i.zero = some z ∧ i.size = 5 ∧ i.bytes ≤ 1000 ∧ z = .agg (pcL pc0).toArray := by
 have h : (Tryz.prog.info? 46).map (fun i => (i.zero,i.size,decide (i.bytes ≤ 1000))) = some (some (.agg (pcL pc0).toArray),5,true) := by kernel_rfl
 cases hi : Tryz.prog.info? 46 with
 | none => rw [hi] at h; cases h
 | some i =>
  rw [hi] at h
  simp only [Option.map_some,Option.some.injEq,Prod.mk.injEq] at h
  obtain ⟨h1,h2,h3⟩ := h
  exact ⟨i,_,rfl,h1,h2,of_decide_eq_true h3,rfl⟩
theorem make22 {n : Nat} (h : n ≤ 9100) (W : World) : (Instr.makeSlice 22 (.int .i64 (n : Int)) (.int .i64 (n : Int))).run Tryz.prog W = .ok (.slice (some ⟨W.heap.size,0,none⟩) n n) (W.alloc (.cells ((List.replicate n pc0).flatMap pcL).toArray 46)) := by
 obtain ⟨i9,z,hi,hz0,hz1,hz2,rfl⟩ := info46z
 have hby : i9.bytes * n ≤ 1000 * 9100 := Nat.mul_le_mul hz2 h
 have := run_makeSlice (P := Tryz.prog) (w := W) 22 46 i9 _ Tryz.underlying22 hi hz0 .i64 .i64 n n (by omega) (by omega) (by rw [hz1]; omega) (by omega) (by omega)
 rw [hz1,Int.toNat_natCast] at this
 rw [← made_rec pcL_len (by omega)]
 exact this
theorem RB.made {α : Type} {k : Nat} {f : α → List Value} (hf : ∀ a,(f a).length = k) (w : World) (e : TypeId) (rs : List α) : RB k f (w.alloc (.cells (rs.flatMap f).toArray e)) w.heap.size rs := by
 refine RB.of_row (World.alloc_heap_new w _) fun i hi j u hu => ?_
 have hj : j < k := by rw [← hf rs[i]]; exact (List.getElem?_eq_some_iff.1 hu).1
 have := fm_get hf rs hi j hj
 rw [hu] at this
 simpa using this
theorem pieces_any (l : List It) (P : Pl) (hO : PlOk l P) (f : Nat × Nat → Option Wy) (M : Nat) (hf : MpOk f) (y : Wy) (hy : y.n ≤ 8192 ∧ y.f < P.sts.length) (w : World) (hP : PlM P f M w) :
  Calls Tryz.prog 17 #[.pointer (some ⟨P.B,0,none⟩),.agg #[.int .i64 y.d,.int .i64 y.n,.int .i64 y.f]] w fun e w' => ∃ g,e = .returned (.slice (some ⟨g,0,none⟩) y.n y.n) ∧ w.heap.size ≤ g ∧ RB 5 pcL w' g (pwL P f y.n (P.sts.length - 1) y) ∧ Below w.heap.size w w' := by
 have hs8 := hO.ns
 have hw257 := hO.nw
 have hb0 := (Below.refl w.heap.size w).alloc (Nat.le_refl _) (.cells #[.int .i64 y.d,.int .i64 y.n,.int .i64 y.f] 58)
 have hT0 : (w.alloc (.cells #[.int .i64 y.d,.int .i64 y.n,.int .i64 y.f] 58)).heap[w.heap.size]? = some (.cells (wyL y).toArray 58 (0,0)) := World.alloc_heap_new w _
 have e1 : (w.alloc (.cells #[.int .i64 y.d,.int .i64 y.n,.int .i64 y.f] 58)).cell? ⟨w.heap.size,1,none⟩ = some (.int .i64 (y.n : Nat)) := by rw [Lib.cell_of_heap hT0]; rfl
 have hP0 := hP.below hb0
 have hmk := make22 (n := y.n) (by omega) (w.alloc (.cells #[.int .i64 y.d,.int .i64 y.n,.int .i64 y.f] 58))
 have hlow4 : P.mb < w.heap.size ∧ P.B < w.heap.size ∧ P.gs < w.heap.size ∧ P.gw < w.heap.size := ⟨hP.m.lt,hP.p.lB,hP.p.ls,hP.p.lw⟩
 have hzs : (w.alloc (.cells #[.int .i64 y.d,.int .i64 y.n,.int .i64 y.f] 58)).heap.size = w.heap.size + 1 := by simp
 have hN : Hid (PsN P w.heap.size (w.heap.size + 1)) := ⟨⟨by omega,by omega,by omega,by omega⟩,⟨by omega,by omega,by omega,by omega⟩,by omega⟩
 have hfin : Hid (∀ W,Turns (fun k => w.heap.size ≤ k) w W → Below w.heap.size w W) := fun W h => ⟨h.os,h.tape,h.output,h.size,fun k hk => h.block k hk (by omega)⟩
 have hnu : Hid (∀ (j : Nat) W,j ≤ 8192 → PlS P W → Calls Tryz.prog 38 #[.pointer (some ⟨P.B,0,none⟩),.int .i64 (j : Nat)] W fun e w' => e = .returned (.int .i64 (nuN P j : Nat)) ∧ Below W.heap.size W w') := fun j W hj hW => (number_any P j (by omega) hw257 W hW).mono fun e w' ⟨h1,h2⟩ => ⟨h1,h2 ▸ Below.refl _ _⟩
 have hpc : Hid (∀ (a b m : Nat) (ha : a < P.sts.length) (hb : b < P.sts.length) (hm : m < P.wds.length) W,PlS P W → Calls Tryz.prog 37 #[.pointer (some ⟨P.gs,P.os + a * 12,none⟩),.pointer (some ⟨P.gs,P.os + b * 12,none⟩),.int .i64 (P.wds[m]'hm)] W fun e w' => e = .returned (.agg (pcL (pcS (P.sts[a]'ha) (P.sts[b]'hb) (P.wds[m]'hm))).toArray) ∧ Below W.heap.size W w') := fun a b m ha hb hm W hW =>
  piece_any _ _ _ _ _ _ _ (hO.f _ (List.getElem_mem ha)).2 (hO.f _ (List.getElem_mem hb)).2 W (hW.st a ha) (hW.st b hb)
 have hS0 : Hid (PsS P f M w.heap.size (w.heap.size + 1) y (List.replicate y.n pc0) ((w.alloc (.cells #[.int .i64 y.d,.int .i64 y.n,.int .i64 y.f] 58)).alloc (.cells ((List.replicate y.n pc0).flatMap pcL).toArray 46))) := by
  have hb1 := (Below.refl (w.alloc (.cells #[.int .i64 y.d,.int .i64 y.n,.int .i64 y.f] 58)).heap.size (w.alloc (.cells #[.int .i64 y.d,.int .i64 y.n,.int .i64 y.f] 58))).alloc (Nat.le_refl _) (.cells ((List.replicate y.n pc0).flatMap pcL).toArray 46)
  refine ⟨hP0.below hb1,(hb1.block _ (by simp)).trans hT0,?_⟩
  have := RB.made pcL_len (w.alloc (.cells #[.int .i64 y.d,.int .i64 y.n,.int .i64 y.f] 58)) 46 (List.replicate y.n pc0)
  rw [hzs] at this
  exact this
 have hB0 : Hid (Turns (fun k => w.heap.size ≤ k) w ((w.alloc (.cells #[.int .i64 y.d,.int .i64 y.n,.int .i64 y.f] 58)).alloc (.cells ((List.replicate y.n pc0).flatMap pcL).toArray 46))) := (Turns.of_below (below2 w _ _)).mono (fun _ h => h.elim)
 rw [hzs] at hmk
 have d0 := hS0.out.p.p.c0
 have e2 := hS0.out.c1
 have hl1 : (1 : Int) ≤ P.sts.length := by omega
 have hl2 : (P.sts.length : Int) ≤ 9000 := by omega
 have hyn : (y.n : Int) ≤ 8192 := by omega
 have hR : Hid (pwL P f y.n (P.sts.length - 1) y ++ (List.replicate y.n pc0).drop y.n = pwL P f y.n (P.sts.length - 1) y) := by show _ = _; simp
 have hfh : Hid (MpOk f) := hf
 have hmn : Hid (∀ k,nuN P k < P.wds.length) := fun k => by unfold nuN; omega
 clear hP hb0 hT0 hP0 hzs hlow4 hO hf
 generalize hNN : y.n = N at *
 obtain ⟨R,hRR⟩ : ∃ R,R = pwL P f N (P.sts.length - 1) y := ⟨_,rfl⟩
 have hR1 : Hid (pwL P f N (P.sts.length - 1) y ++ (List.replicate N pc0).drop N = R) := by rw [hRR]; exact hR
 rw [← hRR]
 clear hR hRR
 go_enter Tryz.func17,Tryz.ntmps17
 go_wp2_with fail
 generalize (w.alloc (.cells #[.int .i64 y.d,.int .i64 N,.int .i64 y.f] 58)).alloc (.cells ((List.replicate N pc0).flatMap pcL).toArray 46) = wz at *
 clear e1 e2 d0 hmk
 go_loopw [6,7] (fun v6 v7 wr => ∃ (k b : Nat) (y1 : Wy) (A : List Pc),k ≤ N ∧ v7 = .int .i64 ((k : Int) - 1) ∧ v6 = .int .i64 (b : Int) ∧ b < P.sts.length ∧ y1.f < P.sts.length ∧ Hid (A.length = N) ∧ Hid (PsS P f M w.heap.size (w.heap.size + 1) y1 A wr) ∧ Hid (Turns (fun k => w.heap.size ≤ k) w wr) ∧ Hid (pwL P f k b y1 ++ A.drop k = R)) (fun _ v7 _ => (intOf v7 + 1).toNat)
 case atStart => exact ⟨N,P.sts.length - 1,y,List.replicate N pc0,by omega,rfl,by congr 1; omega,by omega,hy.2,by show _ = _; simp,hS0,hB0,hR1⟩
 case round =>
  obtain ⟨k,b,y1,A,hk,rfl,rfl,hbl,hyl,hA,hS,hB,hr⟩ := hrel
  clear hS0 hB0 hR1
  cases k with
  | zero =>
   have hge : ¬ (0 : Int) ≤ ((0 : Nat) : Int) - 1 := by omega
   have hRA : Hid (A = R) := by have := hr.out; show A = R; simpa [pwL] using this
   have hrb : Hid (RB 5 pcL wr (w.heap.size + 1) R) := by rw [← hRA.out]; exact hS.out.a
   clear hS hr hRA
   go_wp2_with fail
   go_ret
   exact ⟨w.heap.size + 1,rfl,by omega,hrb.out,hfin.out wr hB.out⟩
  | succ j =>
   have ej : ((j + 1 : Nat) : Int) - 1 = (j : Nat) := by omega
   rw [ej]
   have hj0 : (0 : Int) ≤ (j : Nat) := by omega
   have hj8 : (j : Int) ≤ 8192 := by omega
   have hjN : (j : Int) < N := by omega
   have hyl' : (y1.f : Int) < P.sts.length := by omega
   have hbl' : (b : Int) < P.sts.length := by omega
   have hm := hmn.out j
   have hm' : (nuN P j : Int) < P.wds.length := by omega
   have hnu1 : Hid (∀ W,PlS P W → Calls Tryz.prog 38 #[.pointer (some ⟨P.B,0,none⟩),.int .i64 (j : Nat)] W fun e w' => e = .returned (.int .i64 (nuN P j : Nat)) ∧ Below W.heap.size W w') := fun W hW => hnu.out j W (by omega) hW
   have hpc1 := hpc.out y1.f b (nuN P j) hyl hbl hm
   have hpc1h : Hid (∀ W,PlS P W → Calls Tryz.prog 37 #[.pointer (some ⟨P.gs,P.os + y1.f * 12,none⟩),.pointer (some ⟨P.gs,P.os + b * 12,none⟩),.int .i64 (P.wds[nuN P j]'hm)] W fun e w' => e = .returned (.agg (pcL (pcS (P.sts[y1.f]'hyl) (P.sts[b]'hbl) (P.wds[nuN P j]'hm))).toArray) ∧ Below W.heap.size W w') := hpc1
   have hwdm : P.wds.getD (nuN P j) 0 = P.wds[nuN P j]'hm := by rw [List.getD_eq_getElem?_getD,List.getElem?_eq_getElem hm]; rfl
   have hr2 : Hid (pwL P f j y1.f ((f (y1.f,nuN P j)).getD wy0) ++ (A.set j (pcS (P.sts[y1.f]'hyl) (P.sts[b]'hbl) (P.wds[nuN P j]'hm))).drop j = R) := by
    have h1 := hr.out
    unfold pwL at h1
    rw [st_d hyl,st_d hbl,hwdm,List.append_assoc] at h1
    have hjA : j < A.length := by have := hA.out; omega
    have hd : (A.set j (pcS (P.sts[y1.f]'hyl) (P.sts[b]'hbl) (P.wds[nuN P j]'hm))).drop j = [pcS (P.sts[y1.f]'hyl) (P.sts[b]'hbl) (P.wds[nuN P j]'hm)] ++ A.drop (j + 1) := by
     rw [List.drop_eq_getElem_cons (by simpa using hjA),List.getElem_set_self]
     rw [List.drop_set_of_lt (by omega)]
     rfl
    show _ = _
    rw [hd]
    exact h1
   have hA2 : Hid ((A.set j (pcS (P.sts[y1.f]'hyl) (P.sts[b]'hbl) (P.wds[nuN P j]'hm))).length = N) := by show _ = _; rw [List.length_set]; exact hA.out
   have hsb : Hid (SpB (y1.f,nuN P j)) := ⟨by show y1.f ≤ _; omega,by show nuN P j ≤ _; omega⟩
   have hy2 : Hid (((f (y1.f,nuN P j)).getD wy0).f < P.sts.length) := by
    show _ < _
    cases e : f (y1.f,nuN P j) with
    | none => exact hs8.1
    | some x => have := (hfh.out _ _ e).2.2.1; show x.f < _; simp only at this; omega
   clear hr hpc1 hwdm
   go_wp2_with fail
   refine ps_r6 _ (fun _ _ _ _ _ h => h) _ _ P f M w.heap.size (w.heap.size + 1) N j b (nuN P j) y1 A wr ⟨A,hA.out,hS.out.drew⟩ hS.out hA.out hN.out (by omega) hjN hyl hbl hm hyl' hbl' hm' hnu1 hpc1h ?_
   intro w2 hS2 ht2
   have hS2h : Hid (PsS P f M w.heap.size (w.heap.size + 1) y1 (A.set j (pcS (P.sts[y1.f]'hyl) (P.sts[b]'hbl) (P.wds[nuN P j]'hm))) w2) := hS2
   have hB2 : Hid (Turns (fun k => w.heap.size ≤ k) w w2) := hB.out.trans (ht2.mono (fun k hk => by omega))
   have c2 := hS2.c2
   clear hS2 ht2 hB hS hpc1h hA
   generalize A.set j (pcS (P.sts[y1.f]'hyl) (P.sts[b]'hbl) (P.wds[nuN P j]'hm)) = A2 at *
   generalize hmm : nuN P j = m at *
   unfold fq17
   go_wp2_with fail
   refine ps_r8 _ (fun _ _ _ _ _ h => h) _ _ P f M w.heap.size (w.heap.size + 1) j y1.f m y1 A2 w2 ⟨y1,hS2h.out.drew⟩ hS2h.out hN.out hsb.out hnu1 ?_
   intro w3 hS3 ht3
   have hS3h : Hid (PsS P f M w.heap.size (w.heap.size + 1) ((f (y1.f,m)).getD wy0) A2 w3) := hS3
   have hB3 : Hid (Turns (fun k => w.heap.size ≤ k) w w3) := hB2.out.trans (ht3.mono (fun k hk => by omega))
   clear hS3 ht3 hB2 hS2h hnu1 c2
   unfold fq17
   go_wp2_with fail
   exact ⟨⟨j,y1.f,(f (y1.f,m)).getD wy0,A2,by omega,rfl,rfl,hyl,hy2.out,hA2,hS3h,hB3,hr2⟩,by simp [intOf]⟩
end Go.Proofs.YtfndocmgonlhpaaGreatDoor
