/-
  What is proved here: what stops of least answers.
  What is proved here: lines between stops of items keep their bounds; breaks that may be (no program is named).
-/
import Derived.Test.YtfndocmgonlhpaaGreatDoorG8
import Derived.Test.YtfndocmgonlhpaaGreatDoorG15
namespace Go.Proofs.YtfndocmgonlhpaaGreatDoor
open Go.RowKit Go.Shelf
set_option maxRecDepth 100000
set_option maxHeartbeats 4000000

abbrev StsAt (W : World) (v : Value) (xs : List St) : Prop := RecAt 12 stL W v xs
theorem el47 : ElOk 47 91 12 88 := ElOk.of Tryz.underlying47 (by kernel_rfl)
theorem build47 (x : St) (W : World) : (Instr.buildSlice 47 1 #[(0,.agg (stL x).toArray)]).run Tryz.prog W = .ok (.slice (some ⟨W.heap.size,0,none⟩) 1 1) (W.alloc (.cells (stL x).toArray 91)) := by
 obtain ⟨a,n,⟨e1,e2,e3⟩,⟨b1,b2,b3⟩,c,y,l,t⟩ := x
 kernel_rfl
theorem wpList_build47 {ops : Array Oper} {rest : List Oper} {oi : Oper} {a : Act} {w : World} {Q : Exit → Act → World → Prop} (hgd : oi.guard = none) (y : Operand) (ho : oi.op = .buildSlice 47 1 #[(0,y)]) (p : St) (hy : a.eval y = .agg (stL p).toArray)
  (h : wpList Tryz.prog ops Q rest (a.put oi.dst (.slice (some ⟨w.heap.size,0,none⟩) 1 1)) (w.alloc (.cells (stL p).toArray 91))) : wpList Tryz.prog ops Q (oi :: rest) a w :=
 wpList_plain hgd fun K hK => by
  have hr := build47 p w
  unfold Oper.wp execOp
  simp only [ho,List.map_toArray,List.map_cons,List.map_nil,hy,Sem.run_bind,Sem.run_pure,Result.andThen_ok,hr]
  exact hK _ _ h
def StopsEnd (l : List It) (w : World) (e : Ending) (w' : World) : Prop := (∃ v,e = .returned v ∧ StsAt w' v (stopsL l)) ∧ Below w.heap.size w w'
structure SpI (z : World) (ru : Array Value) (v : Value) (qs : List St) (W : World) : Prop where
 low : Below z.heap.size z W
 box : W.heap[z.heap.size]? = some (.cells ru 50 (0,0))
 row : W.ownsRow (z.heap.size + 1) 91 12 v qs.length (qs.flatMap stL)
theorem SpI.next {z : World} {ru : Array Value} {v : Value} {qs : List St} {W W' : World} (h : SpI z ru v qs W) (hb : Below W.heap.size W W') : SpI z ru v qs W' :=
 ⟨h.low.trans (hb.mono h.low.size),(hb.block _ (Array.getElem?_eq_some_iff.1 h.box).1).trans h.box,ownsRow_below h.row hb⟩
theorem SpI.lt {z : World} {ru : Array Value} {v : Value} {qs : List St} {W : World} (h : SpI z ru v qs W) : z.heap.size + 1 ≤ W.heap.size := (Array.getElem?_eq_some_iff.1 h.box).1
theorem SpI.app {z : World} {ru : Array Value} {v v' : Value} {qs qs' : List St} {W W' : World} (h : SpI z ru v qs W) (hr : W'.ownsRow (z.heap.size + 1) 91 12 v' qs'.length (qs'.flatMap stL)) (hb : Below (z.heap.size + 1) W W') : SpI z ru v' qs' W' :=
 ⟨h.low.trans (hb.mono (by omega)),(hb.block _ (by omega)).trans h.box,hr⟩
theorem spG_stop (l : List It) (b : Nat) : spG l (l.length + 1 - (l.length + 1)) b = [] := by rw [Nat.sub_self]; rfl
theorem spG_yes {l : List It} {b : Nat} (hb : b ≤ l.length) (h : enB l b = true) : spG l (l.length + 1 - b) b = stS l b :: spG l (l.length + 1 - (b + 1)) (b + 1) := by
 rw [show l.length + 1 - b = (l.length + 1 - (b + 1)) + 1 by omega]
 conv => lhs; unfold spG
 rw [if_pos h]
theorem spG_no {l : List It} {b : Nat} (hb : b ≤ l.length) (h : enB l b = false) : spG l (l.length + 1 - b) b = spG l (l.length + 1 - (b + 1)) (b + 1) := by
 rw [show l.length + 1 - b = (l.length + 1 - (b + 1)) + 1 by omega]
 conv => lhs; unfold spG
 rw [if_neg (by rw [h]; decide)]
theorem stops_any (v va vb : Value) (l : List It) (h : ckL l = 0) (w : World) (hR : RuAt w v va vb l) : Calls Tryz.prog 13 #[.agg (ruA v va vb)] w (StopsEnd l w) := by
 have h8 := ck_len h
 have h8' : (l.length : Int) ≤ 8192 := by omega
 have hskl := sk_len (l := l)
 obtain ⟨a0,c0,rfl,-⟩ := hR.i.ex
 obtain ⟨a1,c1,rfl,-⟩ := hR.a.ex
 obtain ⟨a2,c2,rfl,-⟩ := hR.b.ex
 generalize (alL l).length = n1 at *
 generalize (baL l).length = n2 at *
 have hb0 := (Below.refl w.heap.size w).alloc (Nat.le_refl _) (.cells #[.slice a0 l.length c0,.slice a1 n1 c1,.slice a2 n2 c2] 50)
 have hbox : (w.alloc (.cells #[.slice a0 l.length c0,.slice a1 n1 c1,.slice a2 n2 c2] 50)).heap[w.heap.size]? = some (.cells #[.slice a0 l.length c0,.slice a1 n1 c1,.slice a2 n2 c2] 50 (0,0)) := World.alloc_heap_new w _
 have hbeg : Hid (∀ W,Below w.heap.size w W → Calls Tryz.prog 29 #[.agg #[.slice a0 l.length c0,.slice a1 n1 c1,.slice a2 n2 c2]] W fun e w' => e = .returned (.agg (stL (bgS l)).toArray) ∧ Below W.heap.size W w') := fun W hW => beginning_any _ _ _ l h W (hR.below hW (Nat.le_refl _))
 have hst : Hid (∀ b W,b ≤ l.length → Below w.heap.size w W → Calls Tryz.prog 31 #[.agg #[.slice a0 l.length c0,.slice a1 n1 c1,.slice a2 n2 c2],.int .i64 (b : Nat)] W fun e w' => e = .returned (.agg (stL (stS l b)).toArray) ∧ Below W.heap.size W w') := fun b W hb hW => stop_any _ _ _ l b h hb W (hR.below hW (Nat.le_refl _))
 have hlg : Hid (∀ b W,0 < b → b ≤ l.length → Below w.heap.size w W → Calls Tryz.prog 30 #[.slice a0 l.length c0,.int .i64 (b : Nat)] W fun e w' => e = .returned (.bool (enB l b)) ∧ Below W.heap.size W w') := fun b W h0 hb hW => legal30_any _ l b h h0 hb W (hR.i.below hW (Nat.le_refl _))
 have hti : Hid (∀ x ∈ spA l,∀ W,Calls Tryz.prog 32 #[.agg #[.int .i64 x.e.w,.int .i64 x.e.s,.int .i64 x.e.h]] W fun e w' => e = .returned (.int .i64 (tiI x.e)) ∧ Below W.heap.size W w') := fun x hx W => tight_any x.e (spA_ok h x hx).e W
 have hsk : Hid (bgS l :: spG l (l.length + 1 - (sk l 0 + 1)) (sk l 0 + 1) = spA l) := by show _ = bgS l :: spG l (l.length - sk l 0) (sk l 0 + 1); rw [show l.length + 1 - (sk l 0 + 1) = l.length - sk l 0 by omega]
 have hcn : Hid (∀ W : World,(W.alloc (.cells (stL (bgS l)).toArray 91)).cell? ⟨W.heap.size,1,none⟩ = some (.int .i64 (sk l 0 : Nat))) := fun W => by rw [Lib.cell_of_heap (World.alloc_heap_new W _)]; rfl
 have hI0 : Hid (∀ W,Below (w.alloc (.cells #[.slice a0 l.length c0,.slice a1 n1 c1,.slice a2 n2 c2] 50)).heap.size (w.alloc (.cells #[.slice a0 l.length c0,.slice a1 n1 c1,.slice a2 n2 c2] 50)) W → SpI w #[.slice a0 l.length c0,.slice a1 n1 c1,.slice a2 n2 c2] (.slice (some ⟨W.heap.size,0,none⟩) 1 1) [bgS l] (W.alloc (.cells (stL (bgS l)).toArray 91))) := fun W hW => by
  have hs : w.heap.size + 1 ≤ W.heap.size := by have := hW.size; simpa using this
  have hlow := hb0.trans (hW.mono hb0.size)
  exact ⟨hlow.alloc (by omega) _,(Below.heap_alloc _ _ _ (by omega)).trans ((hW.block _ (by simp)).trans hbox),row_new stL_len W _ hs 91 _⟩
 have hlow0 : Hid (Below w.heap.size w (w.alloc (.cells #[.slice a0 l.length c0,.slice a1 n1 c1,.slice a2 n2 c2] 50))) := hb0
 have hske : ((sk l 0 : Nat) : Int) ≤ l.length := by omega
 have hend : Hid (∀ v W,StsAt W v (stopsL l) → Below w.heap.size w W → StopsEnd l w (.returned v) W) := fun v W h1 h2 => ⟨⟨v,rfl,h1⟩,h2⟩
 have hfinL : Hid (∀ L : List St,L = spA l → ∀ hne : L ≠ [],stopsL l = (ttR L (tiI (L.getLast hne).e)).1) := fun L e hne => by subst e; rfl
 have hlen : Hid ((spA l).length ≤ 8193) := by have := spA_len l; show _ ≤ _; omega
 clear hR hb0 hbox h
 generalize sk l 0 = s0 at *
 show Calls Tryz.prog 13 #[.agg #[.slice a0 l.length c0,.slice a1 n1 c1,.slice a2 n2 c2]] w _
 go_enter Tryz.func13,Tryz.ntmps13
 go_wp2_with fail
 generalize w.alloc (.cells #[.slice a0 l.length c0,.slice a1 n1 c1,.slice a2 n2 c2] 50) = wz at *
 go_wp2_with (first | (go_at_call 29; refine (hbeg.out _ hlow0.out).mono ?_; rintro e w2 ⟨rfl,hb2⟩; have cN := hcn.out w2; have hIh : Hid (SpI w #[.slice a0 l.length c0,.slice a1 n1 c1,.slice a2 n2 c2] (.slice (some ⟨w2.heap.size,0,none⟩) 1 1) [bgS l] (w2.alloc (.cells (stL (bgS l)).toArray 91))) := hI0.out w2 hb2; clear hb2 hbeg hcn hI0) | (refine wpList_build47 rfl _ rfl (bgS l) rfl ?_; generalize w2.alloc (.cells (stL (bgS l)).toArray 91) = w3 at *; generalize w2.heap.size = g2 at *))
 clear cN hlow0
 go_loopw [3,4] (fun v3 v4 wr => ∃ (b : Nat) (va : Option Addr) (vc : Nat) (qs : List St),(s0 < b ∧ b ≤ l.length + 1) ∧ v4 = .int .i64 b ∧ v3 = .slice va qs.length vc ∧ Hid (SpI w #[.slice a0 l.length c0,.slice a1 n1 c1,.slice a2 n2 c2] (.slice va qs.length vc) qs wr) ∧ Hid (qs ++ spG l (l.length + 1 - b) b = spA l)) (fun _ v4 _ => l.length + 1 - (intOf v4).toNat)
 case atStart => exact ⟨s0 + 1,_,_,[bgS l],by omega,by simp,rfl,hIh,hsk⟩
 case round =>
  obtain ⟨b,va,vc,qs,⟨hb0,hb1⟩,rfl,rfl,hI,hq⟩ := hrel
  clear hIh hsk
  have k0 : wr.cell? ⟨w.heap.size,0,none⟩ = some (.slice a0 l.length c0) := by rw [Lib.cell_of_heap hI.out.box]; rfl
  have k1 : wr.cell? ⟨w.heap.size,1,none⟩ = some (.slice a1 n1 c1) := by rw [Lib.cell_of_heap hI.out.box]; rfl
  have k2 : wr.cell? ⟨w.heap.size,2,none⟩ = some (.slice a2 n2 c2) := by rw [Lib.cell_of_heap hI.out.box]; rfl
  have hb8 : (b : Int) ≤ 8193 := by omega
  by_cases hbl : b ≤ l.length
  ·have hbl' : (b : Int) ≤ l.length := by omega
   have hlg1 : Hid (Calls Tryz.prog 30 #[.slice a0 l.length c0,.int .i64 (b : Nat)] wr fun e w' => e = .returned (.bool (enB l b)) ∧ Below wr.heap.size wr w') := hlg.out b wr (by omega) hbl hI.out.low
   cases he : enB l b with
   | false =>
    rw [he] at hlg1
    have hq2 : Hid (qs ++ spG l (l.length + 1 - (b + 1)) (b + 1) = spA l) := by show _ = _; rw [← spG_no hbl he]; exact hq.out
    clear he hlg hst hti hend hfinL hq k1 k2
    go_wp2_with (go_at_call 30; refine hlg1.out.mono ?_; rintro e w4 ⟨rfl,hb4⟩)
    go_roundw
    case rel => exact ⟨b + 1,_,_,qs,by omega,by simp,rfl,hI.out.next hb4,hq2⟩
    case measure => simp [intOf]; omega
   | true =>
    rw [he] at hlg1
    have hq2 : Hid ((qs ++ [stS l b]) ++ spG l (l.length + 1 - (b + 1)) (b + 1) = spA l) := by show _ = _; rw [← hq.out,spG_yes hbl he,List.append_assoc]; rfl
    have hqn : Hid (qs.length ≤ 9000) := by
     have h1 := congrArg List.length hq.out
     rw [List.length_append] at h1
     have := hlen.out
     show _ ≤ _
     omega
    have hst1 : Hid (∀ W,Below wr.heap.size wr W → Calls Tryz.prog 31 #[.agg #[.slice a0 l.length c0,.slice a1 n1 c1,.slice a2 n2 c2],.int .i64 (b : Nat)] W fun e w' => e = .returned (.agg (stL (stS l b)).toArray) ∧ Below W.heap.size W w') := fun W hW => hst.out b W hbl (hI.out.low.trans (hW.mono hI.out.low.size))
    have hcl : Hid (∀ W,Below wr.heap.size wr W → W.cell? ⟨w.heap.size,0,none⟩ = some (.slice a0 l.length c0) ∧ W.cell? ⟨w.heap.size,1,none⟩ = some (.slice a1 n1 c1) ∧ W.cell? ⟨w.heap.size,2,none⟩ = some (.slice a2 n2 c2)) := fun W hW => by
     have hl : w.heap.size < wr.heap.size := by have := hI.out.lt; omega
     exact ⟨(hW.cell hl).trans k0,(hW.cell hl).trans k1,(hW.cell hl).trans k2⟩
    clear he hlg hst hti hend hfinL hq k1 k2
    go_wp2_with (first | (go_at_call 30; refine hlg1.out.mono ?_; rintro e w4 ⟨rfl,hb4⟩; obtain ⟨m0,m1,m2⟩ := hcl.out w4 hb4) | (go_at_call 31; refine (hst1.out w4 hb4).mono ?_; rintro e w5 ⟨rfl,hb5⟩; have hI5 : Hid (SpI w #[.slice a0 l.length c0,.slice a1 n1 c1,.slice a2 n2 c2] (.slice va qs.length vc) qs w5) := (hI.out.next hb4).next hb5; clear hb4 hb5 m0 m1 m2 hst1 hlg1 hcl k0) | (refine wpList_build47 rfl _ rfl (stS l b) rfl ?_) | (refine wpList_app1 (k := 12) (f := stL) (w0 := w5) (bytes := 88) rfl el47 stL_len stL_one (by omega) (by omega) _ _ rfl (w.heap.size + 1) (.slice va qs.length vc) qs (stS l b) rfl hI5.out.row hI5.out.lt hqn.out rfl rfl ?_; intro v' w6 hr6 hb6; obtain ⟨g6,cap6,rfl,-,-,-⟩ := row_rb stL_len hr6 (by simp); have hI6 : Hid (SpI w #[.slice a0 l.length c0,.slice a1 n1 c1,.slice a2 n2 c2] (.slice (some ⟨g6,0,none⟩) (qs ++ [stS l b]).length cap6) (qs ++ [stS l b]) w6) := hI5.out.app hr6 hb6; clear hr6 hb6 hI5))
    go_roundw
    case rel => exact ⟨b + 1,_,_,qs ++ [stS l b],by omega,by simp,by rw [List.length_append]; rfl,hI6,hq2⟩
    case measure => simp [intOf]; omega
  ·have hbl' : ¬ (b : Int) ≤ l.length := by omega
   have hqe : qs = spA l := by
    have := hq.out
    rw [show b = l.length + 1 by omega,spG_stop,List.append_nil] at this
    exact this
   have hpos : 0 < qs.length := by rw [hqe]; unfold spA; simp
   obtain ⟨g,cap,hv,hg,hcap,hrb⟩ := row_rb stL_len hI.out.row hpos
   cases hv
   have hne : qs ≠ [] := fun e => by rw [e] at hpos; simp at hpos
   have hfin : Hid (stopsL l = (ttR qs (tiI (qs.getLast hne).e)).1) := hfinL.out qs hqe hne
   have hm8 : (qs.length : Int) ≤ 8193 := by have := hlen.out; rw [← hqe] at this; omega
   have hm1 : (1 : Int) ≤ qs.length := by omega
   have hti2 : Hid (∀ x ∈ qs,∀ W,Calls Tryz.prog 32 #[.agg #[.int .i64 x.e.w,.int .i64 x.e.s,.int .i64 x.e.h]] W fun e w' => e = .returned (.int .i64 (tiI x.e)) ∧ Below W.heap.size W w') := fun x hx => hti.out x (by rw [← hqe]; exact hx)
   have hgl : qs.getLast hne = qs[qs.length - 1]'(by omega) := List.getLast_eq_getElem _
   have hti3 : Hid (∀ W,Calls Tryz.prog 32 #[.agg #[.int .i64 (qs[qs.length - 1]'(by omega)).e.w,.int .i64 (qs[qs.length - 1]'(by omega)).e.s,.int .i64 (qs[qs.length - 1]'(by omega)).e.h]] W fun e w' => e = .returned (.int .i64 (tiI (qs.getLast hne).e)) ∧ Below W.heap.size W w') := fun W => by rw [hgl]; exact hti2.out _ (List.getElem_mem _) W
   have d0 := (hrb.all (qs.length - 1) (by omega) 2 _ rfl).1
   have d1 := (hrb.all (qs.length - 1) (by omega) 3 _ rfl).1
   have d2 := (hrb.all (qs.length - 1) (by omega) 4 _ rfl).1
   have hlowr : Hid (Below w.heap.size w wr) := hI.out.low
   have hrbh : Hid (RB 12 stL wr g qs) := hrb
   have hge : Hid (w.heap.size + 1 ≤ g) := hg
   clear hrb hI hq hqe hti hfinL hlg hst k1 k2 hlen hgl hg
   generalize tiI (qs.getLast hne).e = z at *
   generalize hxl : qs[qs.length - 1]'(by omega) = xl at *
   go_wp2_with (go_at_call 32; refine (hti3.out _).mono ?_; rintro e w4 ⟨rfl,hb4⟩)
   have hlow4 : Hid (Below w.heap.size w w4) := hlowr.out.trans (hb4.mono hlowr.out.size)
   have hrb4 : Hid (RB 12 stL w4 g (ttK qs z (qs.length - 0))) := by
    have := hrbh.out.below hb4 hrbh.out.lt
    show RB 12 stL w4 g (ttK qs z qs.length)
    rw [ttK_all]; exact this
   have hz0 : Hid (z = (ttR (qs.drop (qs.length - 0)) z).2) := by show _ = (ttR (qs.drop qs.length) z).2; rw [List.drop_of_length_le (Nat.le_refl _)]; rfl
   have hfin2 : Hid (∀ W,RB 12 stL W g (ttK qs z 0) → Below w.heap.size w W → StopsEnd l w (.returned (.slice (some ⟨g,0,none⟩) qs.length vc)) W) := fun W h1 h2 => by
    refine hend.out _ W ?_ h2
    have h3 := h1.recs (n := qs.length) (cap := vc) (by rw [ttK_len]; exact Nat.le_refl _) hcap
    rw [List.take_of_length_le (by rw [ttK_len]; exact Nat.le_refl _),ttK_zero,← hfin.out] at h3
    exact h3
   clear hb4 hrbh hlowr d0 d1 d2 hti3 hfin hend hxl k0
   go_loopw [5,43] (fun v5 v43 wq => ∃ (i : Nat) (m0 : Int),i ≤ qs.length ∧ v43 = .int .i64 i ∧ v5 = .int .i64 m0 ∧ Hid (m0 = (ttR (qs.drop (qs.length - i)) z).2) ∧ Below w.heap.size w wq ∧ Hid (RB 12 stL wq g (ttK qs z (qs.length - i)))) (fun _ v43 _ => qs.length - (intOf v43).toNat)
   case atStart => exact ⟨0,z,by omega,rfl,rfl,hz0,hlow4.out,hrb4⟩
   case round =>
    obtain ⟨i,m0,hi,rfl,rfl,hm0,hlw,hrb⟩ := hrel
    clear hrb4 hz0 hlow4
    by_cases hlt : i < qs.length
    ·have hlt' : (i : Int) < qs.length := by omega
     have hj : qs.length - 1 - i < qs.length := by omega
     have ej : qs.length - i = (qs.length - 1 - i) + 1 := by omega
     have ej2 : qs.length - (i + 1) = qs.length - 1 - i := by omega
     have hat := ttK_at (L := qs) (z := z) hj
     rw [← ej] at hat
     obtain ⟨hjl,hje⟩ := List.getElem?_eq_some_iff.1 hat
     have d0 := (hrb.out.all (qs.length - 1 - i) hjl 2 (.int .i64 (qs[qs.length - 1 - i]).e.w) (by rw [hje]; rfl)).1
     have d1 := (hrb.out.all (qs.length - 1 - i) hjl 3 (.int .i64 (qs[qs.length - 1 - i]).e.s) (by rw [hje]; rfl)).1
     have d2 := (hrb.out.all (qs.length - 1 - i) hjl 4 (.int .i64 (qs[qs.length - 1 - i]).e.h) (by rw [hje]; rfl)).1
     have d11 := hrb.out.all (qs.length - 1 - i) hjl 11 (.int .i64 (qs[qs.length - 1 - i]).t) (by rw [hje]; rfl)
     have hgl2 : g < wr.heap.size := hrb.out.lt
     have hcl : Hid (∀ W,Below wr.heap.size wr W → W.cell? ⟨g,(qs.length - 1 - i) * 12 + 11,none⟩ = some (.int .i64 (qs[qs.length - 1 - i]).t) ∧ W.frozen? ⟨g,(qs.length - 1 - i) * 12 + 11,none⟩ = false) := fun W hW => by
      have hb := hW.block g hgl2
      have e1 : W.cell? ⟨g,(qs.length - 1 - i) * 12 + 11,none⟩ = wr.cell? ⟨g,(qs.length - 1 - i) * 12 + 11,none⟩ := by unfold World.cell?; rw [hb]
      have e2 : W.frozen? ⟨g,(qs.length - 1 - i) * 12 + 11,none⟩ = wr.frozen? ⟨g,(qs.length - 1 - i) * 12 + 11,none⟩ := by unfold World.frozen?; rw [hb]
      rw [e1,e2]; exact d11
     have hti4 : Hid (Calls Tryz.prog 32 #[.agg #[.int .i64 (qs[qs.length - 1 - i]).e.w,.int .i64 (qs[qs.length - 1 - i]).e.s,.int .i64 (qs[qs.length - 1 - i]).e.h]] wr fun e w' => e = .returned (.int .i64 (tiI (qs[qs.length - 1 - i]).e)) ∧ Below wr.heap.size wr w') := hti2.out _ (List.getElem_mem _) wr
     have hnext : Hid (∀ W u,Below wr.heap.size wr W → u = min m0 (tiI (qs[qs.length - 1 - i]).e) → u = (ttR (qs.drop (qs.length - (i + 1))) z).2 ∧ RB 12 stL (W.setCell ⟨g,(qs.length - 1 - i) * 12 + 11,none⟩ (.int .i64 u)) g (ttK qs z (qs.length - (i + 1))) ∧ Below w.heap.size w (W.setCell ⟨g,(qs.length - 1 - i) * 12 + 11,none⟩ (.int .i64 u))) := fun W u hW hu => by
      have hst := ttR_step (L := qs) (z := z) hj
      rw [← ej] at hst
      rw [← hm0.out] at hst
      rw [ej2]
      refine ⟨by rw [hst,hu],?_,?_⟩
      ·have h1 := (hrb.out.below hW hgl2).cell stL_len hjl 11 (by omega) (.int .i64 u) { qs[qs.length - 1 - i] with t := u } (by rw [hje]; rfl)
       have h2 := ttK_set (L := qs) (z := z) hj
       rw [← ej,← hm0.out,← hu] at h2
       rw [h2] at h1
       exact h1
      ·have hb5 := hlw.trans (hW.mono hlw.size)
       have := hge.out
       exact hb5.trans ((Turns.setCell (X := fun k => k = g) W (p := ⟨g,(qs.length - 1 - i) * 12 + 11,none⟩) rfl _).below hb5.size (fun k hk => by omega))
     clear hat hjl hje d11 hm0 ej ej2 hti2
     generalize qs[qs.length - 1 - i] = x at *
     generalize hjj : qs.length - 1 - i = j at *
     go_wp2_with (go_at_call 32; refine hti4.out.mono ?_; rintro e w5 ⟨rfl,hb5⟩; obtain ⟨f1,f2⟩ := hcl.out w5 hb5; have hb5h : Hid (Below wr.heap.size wr w5) := hb5; clear hb5 d0 d1 d2)
     obtain ⟨e1,e2,e3⟩ := hnext.out w5 (if tiI x.e < m0 then tiI x.e else m0) hb5h.out (by split <;> omega)
     exact ⟨⟨i + 1,_,by omega,by simp,rfl,e1,e3,e2⟩,by simp [intOf]; omega⟩
    ·have hge2 : ¬ (i : Int) < qs.length := by omega
     have hend3 := hfin2.out wr (by have := hrb.out; rw [show qs.length - i = 0 by omega] at this; exact this) hlw
     clear hrb hfin2 hti2
     go_wp2_with fail
     go_ret
     exact hend3
end Go.Proofs.YtfndocmgonlhpaaGreatDoor

namespace Go.Proofs.YtfndocmgonlhpaaGreatDoor
open Go.RowKit Go.Shelf

structure StF (l : List It) (x : St) : Prop where
 n : x.n ≤ l.length
 b : x.b = alF l x.n
 k : x.n < l.length → (itAt l x.n).k ≠ 2
 a : x.a ≤ l.length
 e : x.a = 0 ∨ (x.e.s = (baF l x.a).s ∧ x.e.h = (baF l x.a).h)
 w : 0 ≤ x.e.w ∧ x.e.w ≤ 4295491584
theorem skG_k {l : List It} {n i : Nat} (hi : i ≤ l.length) (hn : l.length ≤ i + n) : skG l n i < l.length → (itAt l (skG l n i)).k ≠ 2 := fun h => by
 obtain ⟨_,_,h4⟩ := skG_is n i hi hn
 rcases h4 with h4 | h4
 ·omega
 ·exact h4
theorem bg_f {l : List It} : StF l (bgS l) := ⟨sk_len,rfl,skG_k (Nat.zero_le _) (by omega),Nat.zero_le _,.inl rfl,by show (0 : Int) ≤ 0 ∧ (0 : Int) ≤ _; omega⟩
theorem st_f {l : List It} (h : ckL l = 0) {b : Nat} (hb : b ≤ l.length) : StF l (stS l b) := by
 have h8 := ck_len h
 have h1 := bg_le hb
 have h4 := ba_rng h hb
 have hk : bgN l b < l.length → (itAt l (bgN l b)).k ≠ 2 := by
  unfold bgN
  split
  ·exact skG_k (by omega) (by omega)
  ·exact skG_k hb (by omega)
 unfold stS
 split
 ·rename_i hp
  have hok := ok_at h b hp.1
  unfold okP at hok
  refine ⟨h1.2,rfl,hk,hb,.inr ⟨rfl,rfl⟩,?_⟩
  show 0 ≤ (baF l b).w + (itAt l b).w ∧ (baF l b).w + (itAt l b).w ≤ _
  omega
 ·exact ⟨h1.2,rfl,hk,hb,.inr ⟨rfl,rfl⟩,by show 0 ≤ (baF l b).w ∧ (baF l b).w ≤ _; omega⟩
theorem al_succ (l : List It) (j : Nat) : (alF l (j + 1)).s = (alF l j).s + (itAt l j).s ∧ (alF l (j + 1)).h = (alF l j).h + (itAt l j).h := ⟨rfl,rfl⟩
theorem al_mono {l : List It} (h : ckL l = 0) {i : Nat} : ∀ j,i ≤ j → j ≤ l.length → (alF l i).s ≤ (alF l j).s ∧ (alF l i).h ≤ (alF l j).h
 | 0,h1,_ => by
  obtain rfl : i = 0 := by omega
  exact ⟨Int.le_refl _,Int.le_refl _⟩
 | j + 1, h1, h2 => by
  by_cases e : i = j + 1
  ·subst e; exact ⟨Int.le_refl _,Int.le_refl _⟩
  ·have h3 := al_mono h (i := i) j (by omega) (by omega)
   have hok := ok_at h j (by omega)
   unfold okP at hok
   have h4 := al_succ l j
   omega
theorem ba_ge {l : List It} {i : Nat} (hk : (itAt l i).k ≠ 2) : ∀ b,i < b → ∃ j,(i < j ∧ j ≤ b) ∧ baF l b = alF l j
 | 0,h => by omega
 | b + 1, h => by
  unfold baF
  split
  ·rename_i h2
   have hne : i ≠ b := fun e => hk (by rw [e]; exact h2)
   obtain ⟨j,h3,h4⟩ := ba_ge hk b (by omega)
   exact ⟨j,by omega,h4⟩
  ·exact ⟨b + 1,by omega,rfl⟩
theorem ln_ok {l : List It} (h : ckL l = 0) {p q : St} (hp : StF l p) (hq : StF l q) : p.n < q.a → SuOk (lnS p q) := fun hlt => by
 have h8 := ck_len h
 have hpa := hp.n
 have hqa := hq.a
 have hk := hp.k (by omega)
 obtain ⟨j,hj,e⟩ := ba_ge hk q.a hlt
 have hm := al_mono h (i := p.n) j (by omega) (by omega)
 have hr := alF_rng h p.n hp.n
 have hrj := alF_rng h j (by omega)
 have he : q.e.s = (alF l j).s ∧ q.e.h = (alF l j).h := by
  rcases hq.e with h0 | h0
  ·omega
  ·rw [← e]; exact h0
 have hw := hq.w
 unfold lnS
 rw [hp.b]
 refine ⟨?_,?_,?_⟩
 ·show -17179869184 ≤ q.e.w - (alF l p.n).w ∧ q.e.w - (alF l p.n).w ≤ _
  omega
 ·show 0 ≤ q.e.s - (alF l p.n).s ∧ q.e.s - (alF l p.n).s ≤ _
  omega
 ·show 0 ≤ q.e.h - (alF l p.n).h ∧ q.e.h - (alF l p.n).h ≤ _
  omega
theorem spG_f {l : List It} (h : ckL l = 0) : ∀ n b,b + n ≤ l.length + 1 → ∀ x ∈ spG l n b,StF l x
 | 0,_,_,x,hx => by cases hx
 | n + 1, b, hb, x, hx => by
  unfold spG at hx
  split at hx
  ·rcases List.mem_cons.1 hx with rfl | hx
   ·exact st_f h (by omega)
   ·exact spG_f h n (b + 1) (by omega) x hx
  ·exact spG_f h n (b + 1) (by omega) x hx
theorem spA_f {l : List It} (h : ckL l = 0) : ∀ x ∈ spA l,StF l x := fun x hx => by
 unfold spA at hx
 rcases List.mem_cons.1 hx with rfl | hx
 ·exact bg_f
 ·have := sk_len (l := l)
  exact spG_f h _ _ (by omega) x hx
theorem ttR_f {l : List It} : ∀ (L : List St) (z : Int),(∀ x ∈ L,StF l x) → ∀ x ∈ (ttR L z).1,StF l x
 | [],_,_,x,hx => by cases hx
 | y :: r, z, h, x, hx => by
  unfold ttR at hx
  rcases List.mem_cons.1 hx with rfl | hx
  ·have h2 := h y (List.mem_cons_self ..)
   exact ⟨h2.n,h2.b,h2.k,h2.a,h2.e,h2.w⟩
  ·exact ttR_f r z (fun q hq => h q (List.mem_cons_of_mem _ hq)) x hx
theorem stopsL_f {l : List It} (h : ckL l = 0) : ∀ x ∈ stopsL l,StF l x := ttR_f _ _ (spA_f h)
def paG (l : List It) : Nat → List Int → Option (List St)
 | _,[] => some []
 | p,b :: r => if b ≤ p ∨ (l.length : Int) < b ∨ enB l b.toNat = false then none else (paG l (bgN l b.toNat) r).map (stS l b.toNat :: ·)
def paO (l : List It) (bs : List Int) : Option (List St) := if bs.getLast? = some (l.length : Int) then (paG l (sk l 0) bs).map (bgS l :: ·) else none
theorem paG_f {l : List It} (h : ckL l = 0) : ∀ (bs : List Int) (p : Nat) (sts : List St),paG l p bs = some sts → sts.length = bs.length ∧ ∀ x ∈ sts,StF l x ∧ StOk x
 | [],p,sts,e => by cases e; exact ⟨rfl,fun x hx => by cases hx⟩
 | b :: r, p, sts, e => by
  unfold paG at e
  split at e
  ·cases e
  ·rename_i hb
   cases hr : paG l (bgN l b.toNat) r with
   | none => rw [hr] at e; cases e
   | some t =>
    rw [hr] at e
    cases e
    obtain ⟨h1,h2⟩ := paG_f h r _ t hr
    have hbl : b.toNat ≤ l.length := by omega
    refine ⟨by simp [h1],fun x hx => ?_⟩
    rcases List.mem_cons.1 hx with rfl | hx
    ·exact ⟨st_f h hbl,st_ok h hbl⟩
    ·exact h2 x hx
theorem paO_f {l : List It} (h : ckL l = 0) {bs : List Int} {sts : List St} (e : paO l bs = some sts) : sts.length = bs.length + 1 ∧ ∀ x ∈ sts,StF l x ∧ StOk x := by
 unfold paO at e
 split at e
 ·cases hr : paG l (sk l 0) bs with
  | none => rw [hr] at e; cases e
  | some t =>
   rw [hr] at e
   cases e
   obtain ⟨h1,h2⟩ := paG_f h bs _ t hr
   refine ⟨by simp [h1],fun x hx => ?_⟩
   rcases List.mem_cons.1 hx with rfl | hx
   ·exact ⟨bg_f,bg_ok h⟩
   ·exact h2 x hx
 ·cases e
end Go.Proofs.YtfndocmgonlhpaaGreatDoor
