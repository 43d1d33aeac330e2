/-
  What is proved here: what stops of least answers.
  What is proved here: what isWide and flag of para answer.
-/
import Derived.Test.YtfiekhephkpdjaaGreatDoorG16
import Derived.Test.YtfiekhephkpdjaaGreatDoorG20
import Derived.Test.YtfiekhephkpdjaaGreatDoorG1
import Derived.Test.YtfiekhephkpdjaaGreatDoorG13
namespace Go.Proofs.YtfiekhephkpdjaaGreatDoor
open Go.RowKit Go.Shelf
set_option maxRecDepth 100000
set_option maxHeartbeats 4000000

abbrev StsAt (W : World) (v : Value) (xs : List St) : Prop := RecAt 12 stL W v xs
theorem el47 : ElOk 130 184 12 88 := ElOk.of Tryz.underlying130 (by kernel_rfl)
theorem build47 (x : St) (W : World) : (Instr.buildSlice 130 1 #[(0,.agg (stL x).toArray)]).run Tryz.prog W = .ok (.slice (some ⟨W.heap.size,0,none⟩) 1 1) (W.alloc (.cells (stL x).toArray 184)) := by
 obtain ⟨a,n,⟨e1,e2,e3⟩,⟨b1,b2,b3⟩,c,y,l,t⟩ := x
 kernel_rfl
theorem wpList_build47 {ops : Array Oper} {rest : List Oper} {oi : Oper} {a : Act} {w : World} {Q : Exit → Act → World → Prop} (hgd : oi.guard = none) (y : Operand) (ho : oi.op = .buildSlice 130 1 #[(0,y)]) (p : St) (hy : a.eval y = .agg (stL p).toArray)
  (h : wpList Tryz.prog ops Q rest (a.put oi.dst (.slice (some ⟨w.heap.size,0,none⟩) 1 1)) (w.alloc (.cells (stL p).toArray 184))) : wpList Tryz.prog ops Q (oi :: rest) a w :=
 wpList_plain hgd fun K hK => by
  have hr := build47 p w
  unfold Oper.wp execOp
  simp only [ho,List.map_toArray,List.map_cons,List.map_nil,hy,Sem.run_bind,Sem.run_pure,Result.andThen_ok,hr]
  exact hK _ _ h
def StopsEnd (l : List It) (w : World) (e : Ending) (w' : World) : Prop := (∃ v,e = .returned v ∧ StsAt w' v (stopsL l)) ∧ Below w.heap.size w w'
structure SpI (z : World) (ru : Array Value) (v : Value) (qs : List St) (W : World) : Prop where
 low : Below z.heap.size z W
 box : W.heap[z.heap.size]? = some (.cells ru 133 (0,0))
 row : W.ownsRow (z.heap.size + 1) 184 12 v qs.length (qs.flatMap stL)
theorem SpI.next {z : World} {ru : Array Value} {v : Value} {qs : List St} {W W' : World} (h : SpI z ru v qs W) (hb : Below W.heap.size W W') : SpI z ru v qs W' :=
 ⟨h.low.trans (hb.mono h.low.size),(hb.block _ (Array.getElem?_eq_some_iff.1 h.box).1).trans h.box,ownsRow_below h.row hb⟩
theorem SpI.lt {z : World} {ru : Array Value} {v : Value} {qs : List St} {W : World} (h : SpI z ru v qs W) : z.heap.size + 1 ≤ W.heap.size := (Array.getElem?_eq_some_iff.1 h.box).1
theorem SpI.app {z : World} {ru : Array Value} {v v' : Value} {qs qs' : List St} {W W' : World} (h : SpI z ru v qs W) (hr : W'.ownsRow (z.heap.size + 1) 184 12 v' qs'.length (qs'.flatMap stL)) (hb : Below (z.heap.size + 1) W W') : SpI z ru v' qs' W' :=
 ⟨h.low.trans (hb.mono (by omega)),(hb.block _ (by omega)).trans h.box,hr⟩
theorem spG_stop (l : List It) (b : Nat) : spG l (l.length + 1 - (l.length + 1)) b = [] := by rw [Nat.sub_self]; rfl
theorem spG_yes {l : List It} {b : Nat} (hb : b ≤ l.length) (h : enB l b = true) : spG l (l.length + 1 - b) b = stS l b :: spG l (l.length + 1 - (b + 1)) (b + 1) := by
 rw [show l.length + 1 - b = (l.length + 1 - (b + 1)) + 1 by omega]
 conv => lhs; unfold spG
 rw [if_pos h]
theorem spG_no {l : List It} {b : Nat} (hb : b ≤ l.length) (h : enB l b = false) : spG l (l.length + 1 - b) b = spG l (l.length + 1 - (b + 1)) (b + 1) := by
 rw [show l.length + 1 - b = (l.length + 1 - (b + 1)) + 1 by omega]
 conv => lhs; unfold spG
 rw [if_neg (by rw [h]; decide)]
theorem stops_any (v va vb : Value) (l : List It) (h : ckL l = 0) (w : World) (hR : RuAt w v va vb l) : Calls Tryz.prog 64 #[.agg (ruA v va vb)] w (StopsEnd l w) := by
 have h8 := ck_len h
 have h8' : (l.length : Int) ≤ 8192 := by omega
 have hskl := sk_len (l := l)
 obtain ⟨a0,c0,rfl,-⟩ := hR.i.ex
 obtain ⟨a1,c1,rfl,-⟩ := hR.a.ex
 obtain ⟨a2,c2,rfl,-⟩ := hR.b.ex
 generalize (alL l).length = n1 at *
 generalize (baL l).length = n2 at *
 have hb0 := (Below.refl w.heap.size w).alloc (Nat.le_refl _) (.cells #[.slice a0 l.length c0,.slice a1 n1 c1,.slice a2 n2 c2] 133)
 have hbox : (w.alloc (.cells #[.slice a0 l.length c0,.slice a1 n1 c1,.slice a2 n2 c2] 133)).heap[w.heap.size]? = some (.cells #[.slice a0 l.length c0,.slice a1 n1 c1,.slice a2 n2 c2] 133 (0,0)) := World.alloc_heap_new w _
 have hbeg : Hid (∀ W,Below w.heap.size w W → Calls Tryz.prog 98 #[.agg #[.slice a0 l.length c0,.slice a1 n1 c1,.slice a2 n2 c2]] W fun e w' => e = .returned (.agg (stL (bgS l)).toArray) ∧ Below W.heap.size W w') := fun W hW => beginning_any _ _ _ l h W (hR.below hW (Nat.le_refl _))
 have hst : Hid (∀ b W,b ≤ l.length → Below w.heap.size w W → Calls Tryz.prog 100 #[.agg #[.slice a0 l.length c0,.slice a1 n1 c1,.slice a2 n2 c2],.int .i64 (b : Nat)] W fun e w' => e = .returned (.agg (stL (stS l b)).toArray) ∧ Below W.heap.size W w') := fun b W hb hW => lstop_any _ _ _ l b h hb W (hR.below hW (Nat.le_refl _))
 have hlg : Hid (∀ b W,0 < b → b ≤ l.length → Below w.heap.size w W → Calls Tryz.prog 99 #[.slice a0 l.length c0,.int .i64 (b : Nat)] W fun e w' => e = .returned (.bool (enB l b)) ∧ Below W.heap.size W w') := fun b W h0 hb hW => legal30_any _ l b h h0 hb W (hR.i.below hW (Nat.le_refl _))
 have hti : Hid (∀ x ∈ spA l,∀ W,Calls Tryz.prog 101 #[.agg #[.int .i64 x.e.w,.int .i64 x.e.s,.int .i64 x.e.h]] W fun e w' => e = .returned (.int .i64 (tiI x.e)) ∧ Below W.heap.size W w') := fun x hx W => tight_any x.e (spA_ok h x hx).e W
 have hsk : Hid (bgS l :: spG l (l.length + 1 - (sk l 0 + 1)) (sk l 0 + 1) = spA l) := by show _ = bgS l :: spG l (l.length - sk l 0) (sk l 0 + 1); rw [show l.length + 1 - (sk l 0 + 1) = l.length - sk l 0 by omega]
 have hcn : Hid (∀ W : World,(W.alloc (.cells (stL (bgS l)).toArray 184)).cell? ⟨W.heap.size,1,none⟩ = some (.int .i64 (sk l 0 : Nat))) := fun W => by rw [Lib.cell_of_heap (World.alloc_heap_new W _)]; rfl
 have hI0 : Hid (∀ W,Below (w.alloc (.cells #[.slice a0 l.length c0,.slice a1 n1 c1,.slice a2 n2 c2] 133)).heap.size (w.alloc (.cells #[.slice a0 l.length c0,.slice a1 n1 c1,.slice a2 n2 c2] 133)) W → SpI w #[.slice a0 l.length c0,.slice a1 n1 c1,.slice a2 n2 c2] (.slice (some ⟨W.heap.size,0,none⟩) 1 1) [bgS l] (W.alloc (.cells (stL (bgS l)).toArray 184))) := fun W hW => by
  have hs : w.heap.size + 1 ≤ W.heap.size := by have := hW.size; simpa using this
  have hlow := hb0.trans (hW.mono hb0.size)
  exact ⟨hlow.alloc (by omega) _,(Below.heap_alloc _ _ _ (by omega)).trans ((hW.block _ (by simp)).trans hbox),row_new stL_len W _ hs 184 _⟩
 have hlow0 : Hid (Below w.heap.size w (w.alloc (.cells #[.slice a0 l.length c0,.slice a1 n1 c1,.slice a2 n2 c2] 133))) := hb0
 have hske : ((sk l 0 : Nat) : Int) ≤ l.length := by omega
 have hend : Hid (∀ v W,StsAt W v (stopsL l) → Below w.heap.size w W → StopsEnd l w (.returned v) W) := fun v W h1 h2 => ⟨⟨v,rfl,h1⟩,h2⟩
 have hfinL : Hid (∀ L : List St,L = spA l → ∀ hne : L ≠ [],stopsL l = (ttR L (tiI (L.getLast hne).e)).1) := fun L e hne => by subst e; rfl
 have hlen : Hid ((spA l).length ≤ 8193) := by have := spA_len l; show _ ≤ _; omega
 clear hR hb0 hbox h
 generalize sk l 0 = s0 at *
 show Calls Tryz.prog 64 #[.agg #[.slice a0 l.length c0,.slice a1 n1 c1,.slice a2 n2 c2]] w _
 go_enter Tryz.func64,Tryz.ntmps64
 go_wp2_with fail
 generalize w.alloc (.cells #[.slice a0 l.length c0,.slice a1 n1 c1,.slice a2 n2 c2] 133) = wz at *
 go_wp2_with (first | (go_at_call 98; refine (hbeg.out _ hlow0.out).mono ?_; rintro e w2 ⟨rfl,hb2⟩; have cN := hcn.out w2; have hIh : Hid (SpI w #[.slice a0 l.length c0,.slice a1 n1 c1,.slice a2 n2 c2] (.slice (some ⟨w2.heap.size,0,none⟩) 1 1) [bgS l] (w2.alloc (.cells (stL (bgS l)).toArray 184))) := hI0.out w2 hb2; clear hb2 hbeg hcn hI0) | (refine wpList_build47 rfl _ rfl (bgS l) rfl ?_; generalize w2.alloc (.cells (stL (bgS l)).toArray 184) = w3 at *; generalize w2.heap.size = g2 at *))
 clear cN hlow0
 go_loopw [3,4] (fun v3 v4 wr => ∃ (b : Nat) (va : Option Addr) (vc : Nat) (qs : List St),(s0 < b ∧ b ≤ l.length + 1) ∧ v4 = .int .i64 b ∧ v3 = .slice va qs.length vc ∧ Hid (SpI w #[.slice a0 l.length c0,.slice a1 n1 c1,.slice a2 n2 c2] (.slice va qs.length vc) qs wr) ∧ Hid (qs ++ spG l (l.length + 1 - b) b = spA l)) (fun _ v4 _ => l.length + 1 - (intOf v4).toNat)
 case atStart => exact ⟨s0 + 1,_,_,[bgS l],by omega,by simp,rfl,hIh,hsk⟩
 case round =>
  obtain ⟨b,va,vc,qs,⟨hb0,hb1⟩,rfl,rfl,hI,hq⟩ := hrel
  clear hIh hsk
  have k0 : wr.cell? ⟨w.heap.size,0,none⟩ = some (.slice a0 l.length c0) := by rw [Lib.cell_of_heap hI.out.box]; rfl
  have k1 : wr.cell? ⟨w.heap.size,1,none⟩ = some (.slice a1 n1 c1) := by rw [Lib.cell_of_heap hI.out.box]; rfl
  have k2 : wr.cell? ⟨w.heap.size,2,none⟩ = some (.slice a2 n2 c2) := by rw [Lib.cell_of_heap hI.out.box]; rfl
  have hb8 : (b : Int) ≤ 8193 := by omega
  by_cases hbl : b ≤ l.length
  ·have hbl' : (b : Int) ≤ l.length := by omega
   have hlg1 : Hid (Calls Tryz.prog 99 #[.slice a0 l.length c0,.int .i64 (b : Nat)] wr fun e w' => e = .returned (.bool (enB l b)) ∧ Below wr.heap.size wr w') := hlg.out b wr (by omega) hbl hI.out.low
   cases he : enB l b with
   | false =>
    rw [he] at hlg1
    have hq2 : Hid (qs ++ spG l (l.length + 1 - (b + 1)) (b + 1) = spA l) := by show _ = _; rw [← spG_no hbl he]; exact hq.out
    clear he hlg hst hti hend hfinL hq k1 k2
    go_wp2_with (go_at_call 99; refine hlg1.out.mono ?_; rintro e w4 ⟨rfl,hb4⟩)
    go_roundw
    case rel => exact ⟨b + 1,_,_,qs,by omega,by simp,rfl,hI.out.next hb4,hq2⟩
    case measure => simp [intOf]; omega
   | true =>
    rw [he] at hlg1
    have hq2 : Hid ((qs ++ [stS l b]) ++ spG l (l.length + 1 - (b + 1)) (b + 1) = spA l) := by show _ = _; rw [← hq.out,spG_yes hbl he,List.append_assoc]; rfl
    have hqn : Hid (qs.length ≤ 9000) := by
     have h1 := congrArg List.length hq.out
     rw [List.length_append] at h1
     have := hlen.out
     show _ ≤ _
     omega
    have hst1 : Hid (∀ W,Below wr.heap.size wr W → Calls Tryz.prog 100 #[.agg #[.slice a0 l.length c0,.slice a1 n1 c1,.slice a2 n2 c2],.int .i64 (b : Nat)] W fun e w' => e = .returned (.agg (stL (stS l b)).toArray) ∧ Below W.heap.size W w') := fun W hW => hst.out b W hbl (hI.out.low.trans (hW.mono hI.out.low.size))
    have hcl : Hid (∀ W,Below wr.heap.size wr W → W.cell? ⟨w.heap.size,0,none⟩ = some (.slice a0 l.length c0) ∧ W.cell? ⟨w.heap.size,1,none⟩ = some (.slice a1 n1 c1) ∧ W.cell? ⟨w.heap.size,2,none⟩ = some (.slice a2 n2 c2)) := fun W hW => by
     have hl : w.heap.size < wr.heap.size := by have := hI.out.lt; omega
     exact ⟨(hW.cell hl).trans k0,(hW.cell hl).trans k1,(hW.cell hl).trans k2⟩
    clear he hlg hst hti hend hfinL hq k1 k2
    go_wp2_with (first | (go_at_call 99; refine hlg1.out.mono ?_; rintro e w4 ⟨rfl,hb4⟩; obtain ⟨m0,m1,m2⟩ := hcl.out w4 hb4) | (go_at_call 100; refine (hst1.out w4 hb4).mono ?_; rintro e w5 ⟨rfl,hb5⟩; have hI5 : Hid (SpI w #[.slice a0 l.length c0,.slice a1 n1 c1,.slice a2 n2 c2] (.slice va qs.length vc) qs w5) := (hI.out.next hb4).next hb5; clear hb4 hb5 m0 m1 m2 hst1 hlg1 hcl k0) | (refine wpList_build47 rfl _ rfl (stS l b) rfl ?_) | (refine wpList_app1 (k := 12) (f := stL) (w0 := w5) (bytes := 88) rfl el47 stL_len stL_one (by omega) (by omega) _ _ rfl (w.heap.size + 1) (.slice va qs.length vc) qs (stS l b) rfl hI5.out.row hI5.out.lt hqn.out rfl rfl ?_; intro v' w6 hr6 hb6; obtain ⟨g6,cap6,rfl,-,-,-⟩ := row_rb stL_len hr6 (by simp); have hI6 : Hid (SpI w #[.slice a0 l.length c0,.slice a1 n1 c1,.slice a2 n2 c2] (.slice (some ⟨g6,0,none⟩) (qs ++ [stS l b]).length cap6) (qs ++ [stS l b]) w6) := hI5.out.app hr6 hb6; clear hr6 hb6 hI5))
    go_roundw
    case rel => exact ⟨b + 1,_,_,qs ++ [stS l b],by omega,by simp,by rw [List.length_append]; rfl,hI6,hq2⟩
    case measure => simp [intOf]; omega
  ·have hbl' : ¬ (b : Int) ≤ l.length := by omega
   have hqe : qs = spA l := by
    have := hq.out
    rw [show b = l.length + 1 by omega,spG_stop,List.append_nil] at this
    exact this
   have hpos : 0 < qs.length := by rw [hqe]; unfold spA; simp
   obtain ⟨g,cap,hv,hg,hcap,hrb⟩ := row_rb stL_len hI.out.row hpos
   cases hv
   have hne : qs ≠ [] := fun e => by rw [e] at hpos; simp at hpos
   have hfin : Hid (stopsL l = (ttR qs (tiI (qs.getLast hne).e)).1) := hfinL.out qs hqe hne
   have hm8 : (qs.length : Int) ≤ 8193 := by have := hlen.out; rw [← hqe] at this; omega
   have hm1 : (1 : Int) ≤ qs.length := by omega
   have hti2 : Hid (∀ x ∈ qs,∀ W,Calls Tryz.prog 101 #[.agg #[.int .i64 x.e.w,.int .i64 x.e.s,.int .i64 x.e.h]] W fun e w' => e = .returned (.int .i64 (tiI x.e)) ∧ Below W.heap.size W w') := fun x hx => hti.out x (by rw [← hqe]; exact hx)
   have hgl : qs.getLast hne = qs[qs.length - 1]'(by omega) := List.getLast_eq_getElem _
   have hti3 : Hid (∀ W,Calls Tryz.prog 101 #[.agg #[.int .i64 (qs[qs.length - 1]'(by omega)).e.w,.int .i64 (qs[qs.length - 1]'(by omega)).e.s,.int .i64 (qs[qs.length - 1]'(by omega)).e.h]] W fun e w' => e = .returned (.int .i64 (tiI (qs.getLast hne).e)) ∧ Below W.heap.size W w') := fun W => by rw [hgl]; exact hti2.out _ (List.getElem_mem _) W
   have d0 := (hrb.all (qs.length - 1) (by omega) 2 _ rfl).1
   have d1 := (hrb.all (qs.length - 1) (by omega) 3 _ rfl).1
   have d2 := (hrb.all (qs.length - 1) (by omega) 4 _ rfl).1
   have hlowr : Hid (Below w.heap.size w wr) := hI.out.low
   have hrbh : Hid (RB 12 stL wr g qs) := hrb
   have hge : Hid (w.heap.size + 1 ≤ g) := hg
   clear hrb hI hq hqe hti hfinL hlg hst k1 k2 hlen hgl hg
   generalize tiI (qs.getLast hne).e = z at *
   generalize hxl : qs[qs.length - 1]'(by omega) = xl at *
   go_wp2_with (go_at_call 101; refine (hti3.out _).mono ?_; rintro e w4 ⟨rfl,hb4⟩)
   have hlow4 : Hid (Below w.heap.size w w4) := hlowr.out.trans (hb4.mono hlowr.out.size)
   have hrb4 : Hid (RB 12 stL w4 g (ttK qs z (qs.length - 0))) := by
    have := hrbh.out.below hb4 hrbh.out.lt
    show RB 12 stL w4 g (ttK qs z qs.length)
    rw [ttK_all]; exact this
   have hz0 : Hid (z = (ttR (qs.drop (qs.length - 0)) z).2) := by show _ = (ttR (qs.drop qs.length) z).2; rw [List.drop_of_length_le (Nat.le_refl _)]; rfl
   have hfin2 : Hid (∀ W,RB 12 stL W g (ttK qs z 0) → Below w.heap.size w W → StopsEnd l w (.returned (.slice (some ⟨g,0,none⟩) qs.length vc)) W) := fun W h1 h2 => by
    refine hend.out _ W ?_ h2
    have h3 := h1.recs (n := qs.length) (cap := vc) (by rw [ttK_len]; exact Nat.le_refl _) hcap
    rw [List.take_of_length_le (by rw [ttK_len]; exact Nat.le_refl _),ttK_zero,← hfin.out] at h3
    exact h3
   clear hb4 hrbh hlowr d0 d1 d2 hti3 hfin hend hxl k0
   go_loopw [5,43] (fun v5 v43 wq => ∃ (i : Nat) (m0 : Int),i ≤ qs.length ∧ v43 = .int .i64 i ∧ v5 = .int .i64 m0 ∧ Hid (m0 = (ttR (qs.drop (qs.length - i)) z).2) ∧ Below w.heap.size w wq ∧ Hid (RB 12 stL wq g (ttK qs z (qs.length - i)))) (fun _ v43 _ => qs.length - (intOf v43).toNat)
   case atStart => exact ⟨0,z,by omega,rfl,rfl,hz0,hlow4.out,hrb4⟩
   case round =>
    obtain ⟨i,m0,hi,rfl,rfl,hm0,hlw,hrb⟩ := hrel
    clear hrb4 hz0 hlow4
    by_cases hlt : i < qs.length
    ·have hlt' : (i : Int) < qs.length := by omega
     have hj : qs.length - 1 - i < qs.length := by omega
     have ej : qs.length - i = (qs.length - 1 - i) + 1 := by omega
     have ej2 : qs.length - (i + 1) = qs.length - 1 - i := by omega
     have hat := ttK_at (L := qs) (z := z) hj
     rw [← ej] at hat
     obtain ⟨hjl,hje⟩ := List.getElem?_eq_some_iff.1 hat
     have d0 := (hrb.out.all (qs.length - 1 - i) hjl 2 (.int .i64 (qs[qs.length - 1 - i]).e.w) (by rw [hje]; rfl)).1
     have d1 := (hrb.out.all (qs.length - 1 - i) hjl 3 (.int .i64 (qs[qs.length - 1 - i]).e.s) (by rw [hje]; rfl)).1
     have d2 := (hrb.out.all (qs.length - 1 - i) hjl 4 (.int .i64 (qs[qs.length - 1 - i]).e.h) (by rw [hje]; rfl)).1
     have d11 := hrb.out.all (qs.length - 1 - i) hjl 11 (.int .i64 (qs[qs.length - 1 - i]).t) (by rw [hje]; rfl)
     have hgl2 : g < wr.heap.size := hrb.out.lt
     have hcl : Hid (∀ W,Below wr.heap.size wr W → W.cell? ⟨g,(qs.length - 1 - i) * 12 + 11,none⟩ = some (.int .i64 (qs[qs.length - 1 - i]).t) ∧ W.frozen? ⟨g,(qs.length - 1 - i) * 12 + 11,none⟩ = false) := fun W hW => by
      have hb := hW.block g hgl2
      have e1 : W.cell? ⟨g,(qs.length - 1 - i) * 12 + 11,none⟩ = wr.cell? ⟨g,(qs.length - 1 - i) * 12 + 11,none⟩ := by unfold World.cell?; rw [hb]
      have e2 : W.frozen? ⟨g,(qs.length - 1 - i) * 12 + 11,none⟩ = wr.frozen? ⟨g,(qs.length - 1 - i) * 12 + 11,none⟩ := by unfold World.frozen?; rw [hb]
      rw [e1,e2]; exact d11
     have hti4 : Hid (Calls Tryz.prog 101 #[.agg #[.int .i64 (qs[qs.length - 1 - i]).e.w,.int .i64 (qs[qs.length - 1 - i]).e.s,.int .i64 (qs[qs.length - 1 - i]).e.h]] wr fun e w' => e = .returned (.int .i64 (tiI (qs[qs.length - 1 - i]).e)) ∧ Below wr.heap.size wr w') := hti2.out _ (List.getElem_mem _) wr
     have hnext : Hid (∀ W u,Below wr.heap.size wr W → u = min m0 (tiI (qs[qs.length - 1 - i]).e) → u = (ttR (qs.drop (qs.length - (i + 1))) z).2 ∧ RB 12 stL (W.setCell ⟨g,(qs.length - 1 - i) * 12 + 11,none⟩ (.int .i64 u)) g (ttK qs z (qs.length - (i + 1))) ∧ Below w.heap.size w (W.setCell ⟨g,(qs.length - 1 - i) * 12 + 11,none⟩ (.int .i64 u))) := fun W u hW hu => by
      have hst := ttR_step (L := qs) (z := z) hj
      rw [← ej] at hst
      rw [← hm0.out] at hst
      rw [ej2]
      refine ⟨by rw [hst,hu],?_,?_⟩
      ·have h1 := (hrb.out.below hW hgl2).cell stL_len hjl 11 (by omega) (.int .i64 u) { qs[qs.length - 1 - i] with t := u } (by rw [hje]; rfl)
       have h2 := ttK_set (L := qs) (z := z) hj
       rw [← ej,← hm0.out,← hu] at h2
       rw [h2] at h1
       exact h1
      ·have hb5 := hlw.trans (hW.mono hlw.size)
       have := hge.out
       exact hb5.trans ((Turns.setCell (X := fun k => k = g) W (p := ⟨g,(qs.length - 1 - i) * 12 + 11,none⟩) rfl _).below hb5.size (fun k hk => by omega))
     clear hat hjl hje d11 hm0 ej ej2 hti2
     generalize qs[qs.length - 1 - i] = x at *
     generalize hjj : qs.length - 1 - i = j at *
     go_wp2_with (go_at_call 101; refine hti4.out.mono ?_; rintro e w5 ⟨rfl,hb5⟩; obtain ⟨f1,f2⟩ := hcl.out w5 hb5; have hb5h : Hid (Below wr.heap.size wr w5) := hb5; clear hb5 d0 d1 d2)
     obtain ⟨e1,e2,e3⟩ := hnext.out w5 (if tiI x.e < m0 then tiI x.e else m0) hb5h.out (by split <;> omega)
     exact ⟨⟨i + 1,_,by omega,by simp,rfl,e1,e3,e2⟩,by simp [intOf]; omega⟩
    ·have hge2 : ¬ (i : Int) < qs.length := by omega
     have hend3 := hfin2.out wr (by have := hrb.out; rw [show qs.length - i = 0 by omega] at this; exact this) hlw
     clear hrb hfin2 hti2
     go_wp2_with fail
     go_ret
     exact hend3
end Go.Proofs.YtfiekhephkpdjaaGreatDoor

namespace Go.Proofs.YtfiekhephkpdjaaGreatDoor
open Go.RowKit Go.Shelf
set_option maxRecDepth 100000
set_option maxHeartbeats 2000000

theorem slice55 (a : Option Addr) (n cap f t : Nat) (h1 : f ≤ t) (h2 : t ≤ cap) : ∃ a',(∀ W,(Instr.slice 48 (.slice a n cap) (some (.int .i64 (f : Int))) (some (.int .i64 (t : Int))) none).run Tryz.prog W = .ok (.slice a' (t - f) (cap - f)) W) ∧ (∀ b o,a = some ⟨b,o,none⟩ → f < t → a' = some ⟨b,o + f * 8,none⟩) := by
 have he : Tryz.prog.elem 48 = 68 := by kernel_rfl
 have hu : Tryz.prog.underlying 48 = some (.slice (Tryz.prog.elem 48)) := by rw [he]; exact Tryz.underlying48
 refine ⟨if cap = f then a else a.map (fun x => x.add (f * 8)),fun W => ?_,fun b o e hlt => ?_⟩
 ·have hr := run_slice_lh (P := Tryz.prog) (w := W) 48 a n cap hu .i64 .i64 f t (by omega) (by omega) (by omega)
  have hs : (sizeOf (Tryz.prog.elem 48)).run Tryz.prog W = .ok 8 W := by kernel_rfl
  rw [hs] at hr
  simpa only [Result.andThen,sliced,Int.toNat_natCast] using hr
 ·rw [if_neg (by omega),e]
  simp [addr_add]
def wdB (l : List It) (x : Pc) (s : Sl) : Bool := decide (s.w + giH (subL l x.a x.b) 0 ((x.b : Int) - x.a) < x.nt)
theorem giH_rng {l : List It} (h : ckL l = 0) (a b : Int) : 0 ≤ giH l a b ∧ giH l a b ≤ 40000000 := by
 unfold giH
 split
 ·rename_i h1
  have h2 := ck_len h
  unfold rfL at h1
  rw [if_neg (by rw [h]; exact fun h => h rfl)] at h1
  split at h1
  ·rename_i h3
   have h4 := shN_le l a.toNat (b.toNat - a.toNat)
   have := (su_rng h (a := a.toNat) (shN l a.toNat (b.toNat - a.toNat)) (by omega)).2
   omega
  ·cases h1
 ·omega
structure WiW (X : Nat) (x : Pc) (s : Sl) (l : List It) (v u : Value) (W : World) : Prop where
 px : W.heap[X]? = some (.cells (pcL x).toArray 56 (0,0))
 ps : W.heap[X + 1]? = some (.cells (slL s).toArray 32 (0,0))
 hl : ItsAt W v l
 hu : ItsAt W u (subL l x.a x.b)
theorem WiW.below {X : Nat} {x : Pc} {s : Sl} {l : List It} {v u : Value} {W W' : World} (h : WiW X x s l v u W) (hb : Below W.heap.size W W') : WiW X x s l v u W' :=
 ⟨(hb.block _ (Array.getElem?_eq_some_iff.1 h.px).1).trans h.px,(hb.block _ (Array.getElem?_eq_some_iff.1 h.ps).1).trans h.ps,h.hl.below hb (Nat.le_refl _),h.hu.below hb (Nat.le_refl _)⟩
theorem WiW.c0 {X : Nat} {x : Pc} {s : Sl} {l : List It} {v u : Value} {W : World} (h : WiW X x s l v u W) : W.cell? ⟨X,0,none⟩ = some (.int .i64 (x.a : Nat)) := (Lib.cell_of_heap h.px _).trans rfl
theorem WiW.c1 {X : Nat} {x : Pc} {s : Sl} {l : List It} {v u : Value} {W : World} (h : WiW X x s l v u W) : W.cell? ⟨X,1,none⟩ = some (.int .i64 (x.b : Nat)) := (Lib.cell_of_heap h.px _).trans rfl
theorem WiW.c4 {X : Nat} {x : Pc} {s : Sl} {l : List It} {v u : Value} {W : World} (h : WiW X x s l v u W) : W.cell? ⟨X,4,none⟩ = some (.int .i64 x.nt) := (Lib.cell_of_heap h.px _).trans rfl
theorem WiW.d1 {X : Nat} {x : Pc} {s : Sl} {l : List It} {v u : Value} {W : World} (h : WiW X x s l v u W) : W.cell? ⟨X + 1,1,none⟩ = some (.int .i64 s.w) := (Lib.cell_of_heap h.ps _).trans rfl
theorem wrap_sm {a b : Nat} (h : a ≤ b ∧ b ≤ 8192) : IntKind.i64.wrap ((b : Int) - a) = (b : Int) - a := by rw [IntKind.wrap_i64]; omega
def frp35 (v0 v1 v2 v3 v4 v5 v6 v7 v8 v9 xa xb xc xd xe xf xg xh xi xj xk xl xm xn xo xp xq xr xt xu xv xw xx : Value) : Act := { tmps := #[v0,v1,v2,v3,v4,v5,v6,v7,v8,v9,xa,xb,xc,xd,xe,xf,xg,xh,xi,xj,xk,xl,xm,xn,xo,xp,xq,xr,xt,xu,xv,xw,xx],defers := [] }
def opp35_1_0 (ps : String) : Oper := ⟨some 11,.move (.tmp 0),48,ps,#[],none⟩
def opp35_1_1 (ps : String) : Oper := ⟨some 12,.fieldAddr 56 (.tmp 4) 0,0,ps,#[],none⟩
def opp35_1_2 (ps : String) : Oper := ⟨some 13,.load 3 (.tmp 12),3,ps,#[⟨1,.data⟩],none⟩
def opp35_1_3 (ps : String) : Oper := ⟨some 14,.fieldAddr 56 (.tmp 4) 1,0,ps,#[],none⟩
def opp35_1_4 (ps : String) : Oper := ⟨some 15,.load 3 (.tmp 14),3,ps,#[⟨3,.data⟩],none⟩
def opp35_1_5 (ps : String) : Oper := ⟨some 16,.slice 48 (.tmp 11) (some (.tmp 13)) (some (.tmp 15)) none,48,ps,#[⟨0,.data⟩,⟨2,.data⟩,⟨4,.data⟩],none⟩
def opp35_1_6 (ps : String) : Oper := ⟨some 17,.fieldAddr 56 (.tmp 4) 1,0,ps,#[],none⟩
def opp35_1_7 (ps : String) : Oper := ⟨some 18,.load 3 (.tmp 17),3,ps,#[⟨6,.data⟩],none⟩
def opp35_1_8 (ps : String) : Oper := ⟨some 19,.fieldAddr 56 (.tmp 4) 0,0,ps,#[],none⟩
def opp35_1_9 (ps : String) : Oper := ⟨some 20,.load 3 (.tmp 19),3,ps,#[⟨8,.data⟩],none⟩
def opp35_1_10 (ps : String) : Oper := ⟨some 21,.binOp .sub 3 (.tmp 18) (.tmp 20) 3,3,ps,#[⟨7,.data⟩,⟨9,.data⟩],none⟩
def opp35_1_11 (ps : String) : Oper := ⟨some 22,.call ⟨.value (.func 24),#[.tmp 16,.const (.int .i64 0),.tmp 21],#[48,3,3]⟩,70,ps,#[⟨5,.data⟩,⟨10,.data⟩],none⟩
def opp35_1_12 (ps : String) : Oper := ⟨some 10,.move (.tmp 22),70,ps,#[⟨11,.data⟩],none⟩
def opp35_1_13 (ps : String) : Oper := ⟨some 23,.extract (.tmp 10) 0,3,ps,#[⟨12,.data⟩],none⟩
def opp35_1_14 (ps : String) : Oper := ⟨some 24,.extract (.tmp 10) 1,3,ps,#[⟨12,.data⟩,⟨16,.gcOnly .lateStores⟩],none⟩
def opp35_1_15 (ps : String) : Oper := ⟨some 25,.extract (.tmp 10) 2,36,ps,#[⟨12,.data⟩,⟨17,.gcOnly .lateStores⟩],none⟩
def opp35_1_16 (ps : String) : Oper := ⟨some 7,.assign (.tmp 23),3,ps,#[⟨13,.data⟩,⟨11,.chain⟩,⟨0,.phase⟩,⟨1,.phase⟩,⟨2,.phase⟩,⟨3,.phase⟩,⟨4,.phase⟩,⟨5,.phase⟩,⟨6,.phase⟩,⟨7,.phase⟩,⟨8,.phase⟩,⟨9,.phase⟩,⟨10,.phase⟩,⟨11,.phase⟩,⟨12,.phase⟩,⟨13,.phase⟩,⟨14,.textOnly .lateStores⟩,⟨15,.textOnly .lateStores⟩],none⟩
def opp35_1_17 (ps : String) : Oper := ⟨some 8,.assign (.tmp 24),3,ps,#[⟨14,.data⟩,⟨16,.chain⟩,⟨0,.phase⟩,⟨1,.phase⟩,⟨2,.phase⟩,⟨3,.phase⟩,⟨4,.phase⟩,⟨5,.phase⟩,⟨6,.phase⟩,⟨7,.phase⟩,⟨8,.phase⟩,⟨9,.phase⟩,⟨10,.phase⟩,⟨11,.phase⟩,⟨12,.phase⟩,⟨13,.phase⟩,⟨14,.phase⟩,⟨15,.textOnly .lateStores⟩,⟨16,.phase⟩],none⟩
def opp35_1_18 (ps : String) : Oper := ⟨some 9,.assign (.tmp 25),36,ps,#[⟨15,.data⟩,⟨17,.chain⟩,⟨0,.phase⟩,⟨1,.phase⟩,⟨2,.phase⟩,⟨3,.phase⟩,⟨4,.phase⟩,⟨5,.phase⟩,⟨6,.phase⟩,⟨7,.phase⟩,⟨8,.phase⟩,⟨9,.phase⟩,⟨10,.phase⟩,⟨11,.phase⟩,⟨12,.phase⟩,⟨13,.phase⟩,⟨14,.phase⟩,⟨15,.phase⟩,⟨16,.phase⟩,⟨17,.phase⟩],none⟩
def opp35_1 (ps : String) : Array Oper := #[opp35_1_0 ps,opp35_1_1 ps,opp35_1_2 ps,opp35_1_3 ps,opp35_1_4 ps,opp35_1_5 ps,opp35_1_6 ps,opp35_1_7 ps,opp35_1_8 ps,opp35_1_9 ps,opp35_1_10 ps,opp35_1_11 ps,opp35_1_12 ps,opp35_1_13 ps,opp35_1_14 ps,opp35_1_15 ps,opp35_1_16 ps,opp35_1_17 ps,opp35_1_18 ps]

theorem wi_r1 (Q : Exit → Act → World → Prop) (hQ : ∀ c x (n : Nat) v w,Q (.panic c) (x.put (some n) v) w → Q (.panic c) x w) (id : Nat) (ps : String) {v1 v2 v3 v6 v7 v8 v9 xa xb xc xd xe xf xg xh xi xj xk xl xm xn xo xp xq xr xt xu xv xw xx : Value} (z : World) (X : Nat) (x : Pc) (s : Sl) (l : List It) (a1 a2 : Option Addr) (cap : Nat) (w : World) (hS : WiW X x s l (.slice a1 l.length cap) (.slice a2 (x.b - x.a) (cap - x.a)) (World.drew w))
  (hz0 : Below z.heap.size z (World.drew w)) (hxb : x.a ≤ x.b ∧ x.b ≤ 8192) (hsl : ∀ W,(Instr.slice 48 (.slice a1 l.length cap) (some (.int .i64 (x.a : Nat))) (some (.int .i64 (x.b : Nat))) none).run Tryz.prog W = .ok (.slice a2 (x.b - x.a) (cap - x.a)) W)
  (hq : ∀ w',Below z.heap.size z w' → (WiW X x s l (.slice a1 l.length cap) (.slice a2 (x.b - x.a) (cap - x.a))) w' → Q .normal (frp35 (.slice a1 l.length cap) v1 v2 v3 (.pointer (some ⟨X,0,none⟩)) (.pointer (some ⟨X + 1,0,none⟩)) v6 (.int .i64 (giS (subL l x.a x.b) 0 ((x.b : Int) - x.a))) (.int .i64 (giH (subL l x.a x.b) 0 ((x.b : Int) - x.a))) (.int .i64 (rfL (subL l x.a x.b) 0 ((x.b : Int) - x.a))) (.tuple #[.int .i64 (giS (subL l x.a x.b) 0 ((x.b : Int) - x.a)),.int .i64 (giH (subL l x.a x.b) 0 ((x.b : Int) - x.a)),.int .i64 (rfL (subL l x.a x.b) 0 ((x.b : Int) - x.a))]) (.slice a1 l.length cap) (.pointer (some ⟨X,0,none⟩)) (.int .i64 (x.a : Nat)) (.pointer (some ⟨X,1,none⟩)) (.int .i64 (x.b : Nat)) (.slice a2 (x.b - x.a) (cap - x.a)) (.pointer (some ⟨X,1,none⟩)) (.int .i64 (x.b : Nat)) (.pointer (some ⟨X,0,none⟩)) (.int .i64 (x.a : Nat)) (.int .i64 ((x.b : Int) - x.a)) (.tuple #[.int .i64 (giS (subL l x.a x.b) 0 ((x.b : Int) - x.a)),.int .i64 (giH (subL l x.a x.b) 0 ((x.b : Int) - x.a)),.int .i64 (rfL (subL l x.a x.b) 0 ((x.b : Int) - x.a))]) (.int .i64 (giS (subL l x.a x.b) 0 ((x.b : Int) - x.a))) (.int .i64 (giH (subL l x.a x.b) 0 ((x.b : Int) - x.a))) (.int .i64 (rfL (subL l x.a x.b) 0 ((x.b : Int) - x.a))) xq xr xt xu xv xw xx) w') :
  (Code.region id (opp35_1 ps) true).wp Tryz.prog Q (frp35 (.slice a1 l.length cap) v1 v2 v3 (.pointer (some ⟨X,0,none⟩)) (.pointer (some ⟨X + 1,0,none⟩)) v6 v7 v8 v9 xa xb xc xd xe xf xg xh xi xj xk xl xm xn xo xp xq xr xt xu xv xw xx) w := by
 refine wp_region_held (S := WiW X x s l (.slice a1 l.length cap) (.slice a2 (x.b - x.a) (cap - x.a))) (by kernel_rfl) ?_
 change wpAnyH _ _ _ _ _ 19 _ _ (World.drew w)
 refine take_r 0 ⟨some 11,.move (.tmp 0),48,ps,#[],none⟩ (.slice a1 l.length cap) hQ (fun w _ => by kernel_rfl) hS ?_
 refine take_k 1 (opp35_1_1 ps) (.pointer (some ⟨X,0,none⟩)) (frp35 (.slice a1 l.length cap) v1 v2 v3 (.pointer (some ⟨X,0,none⟩)) (.pointer (some ⟨X + 1,0,none⟩)) v6 v7 v8 v9 xa (.slice a1 l.length cap) (.pointer (some ⟨X,0,none⟩)) xd xe xf xg xh xi xj xk xl xm xn xo xp xq xr xt xu xv xw xx) hQ (fun w hS => by unfold frp35 opp35_1_1; go_simp) hS ?_
 refine take_r 2 ⟨some 13,.load 3 (.tmp 12),3,ps,#[⟨1,.data⟩],none⟩ (.int .i64 (x.a : Nat)) hQ (fun w hS => by have e := hS.c0; unfold frp35; go_simp) hS ?_
 refine take_k 3 (opp35_1_3 ps) (.pointer (some ⟨X,1,none⟩)) (frp35 (.slice a1 l.length cap) v1 v2 v3 (.pointer (some ⟨X,0,none⟩)) (.pointer (some ⟨X + 1,0,none⟩)) v6 v7 v8 v9 xa (.slice a1 l.length cap) (.pointer (some ⟨X,0,none⟩)) (.int .i64 (x.a : Nat)) (.pointer (some ⟨X,1,none⟩)) xf xg xh xi xj xk xl xm xn xo xp xq xr xt xu xv xw xx) hQ (fun w hS => by unfold frp35 opp35_1_3; go_simp) hS ?_
 refine take_r 4 ⟨some 15,.load 3 (.tmp 14),3,ps,#[⟨3,.data⟩],none⟩ (.int .i64 (x.b : Nat)) hQ (fun w hS => by have e := hS.c1; unfold frp35; go_simp) hS ?_
 refine take_k 5 (opp35_1_5 ps) (.slice a2 (x.b - x.a) (cap - x.a)) (frp35 (.slice a1 l.length cap) v1 v2 v3 (.pointer (some ⟨X,0,none⟩)) (.pointer (some ⟨X + 1,0,none⟩)) v6 v7 v8 v9 xa (.slice a1 l.length cap) (.pointer (some ⟨X,0,none⟩)) (.int .i64 (x.a : Nat)) (.pointer (some ⟨X,1,none⟩)) (.int .i64 (x.b : Nat)) (.slice a2 (x.b - x.a) (cap - x.a)) xh xi xj xk xl xm xn xo xp xq xr xt xu xv xw xx) hQ (fun w hS => by have e := hsl w; unfold frp35 opp35_1_5; go_simp) hS ?_
 refine take_r 6 ⟨some 17,.fieldAddr 56 (.tmp 4) 1,0,ps,#[],none⟩ (.pointer (some ⟨X,1,none⟩)) hQ (fun w hS => by unfold frp35; go_simp) hS ?_
 refine take_k 7 (opp35_1_7 ps) (.int .i64 (x.b : Nat)) (frp35 (.slice a1 l.length cap) v1 v2 v3 (.pointer (some ⟨X,0,none⟩)) (.pointer (some ⟨X + 1,0,none⟩)) v6 v7 v8 v9 xa (.slice a1 l.length cap) (.pointer (some ⟨X,0,none⟩)) (.int .i64 (x.a : Nat)) (.pointer (some ⟨X,1,none⟩)) (.int .i64 (x.b : Nat)) (.slice a2 (x.b - x.a) (cap - x.a)) (.pointer (some ⟨X,1,none⟩)) (.int .i64 (x.b : Nat)) xj xk xl xm xn xo xp xq xr xt xu xv xw xx) hQ (fun w hS => by have e := hS.c1; unfold frp35 opp35_1_7; go_simp) hS ?_
 refine take_r 8 ⟨some 19,.fieldAddr 56 (.tmp 4) 0,0,ps,#[],none⟩ (.pointer (some ⟨X,0,none⟩)) hQ (fun w hS => by unfold frp35; go_simp) hS ?_
 refine take_k 9 (opp35_1_9 ps) (.int .i64 (x.a : Nat)) (frp35 (.slice a1 l.length cap) v1 v2 v3 (.pointer (some ⟨X,0,none⟩)) (.pointer (some ⟨X + 1,0,none⟩)) v6 v7 v8 v9 xa (.slice a1 l.length cap) (.pointer (some ⟨X,0,none⟩)) (.int .i64 (x.a : Nat)) (.pointer (some ⟨X,1,none⟩)) (.int .i64 (x.b : Nat)) (.slice a2 (x.b - x.a) (cap - x.a)) (.pointer (some ⟨X,1,none⟩)) (.int .i64 (x.b : Nat)) (.pointer (some ⟨X,0,none⟩)) (.int .i64 (x.a : Nat)) xl xm xn xo xp xq xr xt xu xv xw xx) hQ (fun w hS => by have e := hS.c0; unfold frp35 opp35_1_9; go_simp) hS ?_
 refine take_r 10 ⟨some 21,.binOp .sub 3 (.tmp 18) (.tmp 20) 3,3,ps,#[⟨7,.data⟩,⟨9,.data⟩],none⟩ (.int .i64 ((x.b : Int) - x.a)) hQ (fun w hS => by unfold frp35; go_simp; try exact wrap_sm hxb) hS ?_
 refine want_k 11 (opp35_1_11 ps) fun K hK => ?_
 unfold frp35 opp35_1_11
 go_simp
 refine (give_any (.slice a2 (x.b - x.a) (cap - x.a)) (subL l x.a x.b) 0 ((x.b : Int) - x.a) _ hS.hu).mono ?_
 rintro e w1 ⟨rfl,hb1⟩
 have hS1 : WiW X x s l (.slice a1 l.length cap) (.slice a2 (x.b - x.a) (cap - x.a)) w1 := hS.below hb1
 have hz1 := hz0.trans (hb1.mono hz0.size)
 refine hK _ _ hS1 (cast_h (frp35 (.slice a1 l.length cap) v1 v2 v3 (.pointer (some ⟨X,0,none⟩)) (.pointer (some ⟨X + 1,0,none⟩)) v6 v7 v8 v9 xa (.slice a1 l.length cap) (.pointer (some ⟨X,0,none⟩)) (.int .i64 (x.a : Nat)) (.pointer (some ⟨X,1,none⟩)) (.int .i64 (x.b : Nat)) (.slice a2 (x.b - x.a) (cap - x.a)) (.pointer (some ⟨X,1,none⟩)) (.int .i64 (x.b : Nat)) (.pointer (some ⟨X,0,none⟩)) (.int .i64 (x.a : Nat)) (.int .i64 ((x.b : Int) - x.a)) (.tuple #[.int .i64 (giS (subL l x.a x.b) 0 ((x.b : Int) - x.a)),.int .i64 (giH (subL l x.a x.b) 0 ((x.b : Int) - x.a)),.int .i64 (rfL (subL l x.a x.b) 0 ((x.b : Int) - x.a))]) xn xo xp xq xr xt xu xv xw xx) (by kernel_rfl) ?_)
 clear hK K
 refine take_r 12 ⟨some 10,.move (.tmp 22),70,ps,#[⟨11,.data⟩],none⟩ (.tuple #[.int .i64 (giS (subL l x.a x.b) 0 ((x.b : Int) - x.a)),.int .i64 (giH (subL l x.a x.b) 0 ((x.b : Int) - x.a)),.int .i64 (rfL (subL l x.a x.b) 0 ((x.b : Int) - x.a))]) hQ (fun w _ => by kernel_rfl) hS1 ?_
 refine take_k 13 (opp35_1_13 ps) (.int .i64 (giS (subL l x.a x.b) 0 ((x.b : Int) - x.a))) (frp35 (.slice a1 l.length cap) v1 v2 v3 (.pointer (some ⟨X,0,none⟩)) (.pointer (some ⟨X + 1,0,none⟩)) v6 v7 v8 v9 (.tuple #[.int .i64 (giS (subL l x.a x.b) 0 ((x.b : Int) - x.a)),.int .i64 (giH (subL l x.a x.b) 0 ((x.b : Int) - x.a)),.int .i64 (rfL (subL l x.a x.b) 0 ((x.b : Int) - x.a))]) (.slice a1 l.length cap) (.pointer (some ⟨X,0,none⟩)) (.int .i64 (x.a : Nat)) (.pointer (some ⟨X,1,none⟩)) (.int .i64 (x.b : Nat)) (.slice a2 (x.b - x.a) (cap - x.a)) (.pointer (some ⟨X,1,none⟩)) (.int .i64 (x.b : Nat)) (.pointer (some ⟨X,0,none⟩)) (.int .i64 (x.a : Nat)) (.int .i64 ((x.b : Int) - x.a)) (.tuple #[.int .i64 (giS (subL l x.a x.b) 0 ((x.b : Int) - x.a)),.int .i64 (giH (subL l x.a x.b) 0 ((x.b : Int) - x.a)),.int .i64 (rfL (subL l x.a x.b) 0 ((x.b : Int) - x.a))]) (.int .i64 (giS (subL l x.a x.b) 0 ((x.b : Int) - x.a))) xo xp xq xr xt xu xv xw xx) hQ (fun w _ => by kernel_rfl) hS1 ?_
 refine take_r 14 ⟨some 24,.extract (.tmp 10) 1,3,ps,#[⟨12,.data⟩,⟨16,.gcOnly .lateStores⟩],none⟩ (.int .i64 (giH (subL l x.a x.b) 0 ((x.b : Int) - x.a))) hQ (fun w _ => by kernel_rfl) hS1 ?_
 refine take_k 15 (opp35_1_15 ps) (.int .i64 (rfL (subL l x.a x.b) 0 ((x.b : Int) - x.a))) (frp35 (.slice a1 l.length cap) v1 v2 v3 (.pointer (some ⟨X,0,none⟩)) (.pointer (some ⟨X + 1,0,none⟩)) v6 v7 v8 v9 (.tuple #[.int .i64 (giS (subL l x.a x.b) 0 ((x.b : Int) - x.a)),.int .i64 (giH (subL l x.a x.b) 0 ((x.b : Int) - x.a)),.int .i64 (rfL (subL l x.a x.b) 0 ((x.b : Int) - x.a))]) (.slice a1 l.length cap) (.pointer (some ⟨X,0,none⟩)) (.int .i64 (x.a : Nat)) (.pointer (some ⟨X,1,none⟩)) (.int .i64 (x.b : Nat)) (.slice a2 (x.b - x.a) (cap - x.a)) (.pointer (some ⟨X,1,none⟩)) (.int .i64 (x.b : Nat)) (.pointer (some ⟨X,0,none⟩)) (.int .i64 (x.a : Nat)) (.int .i64 ((x.b : Int) - x.a)) (.tuple #[.int .i64 (giS (subL l x.a x.b) 0 ((x.b : Int) - x.a)),.int .i64 (giH (subL l x.a x.b) 0 ((x.b : Int) - x.a)),.int .i64 (rfL (subL l x.a x.b) 0 ((x.b : Int) - x.a))]) (.int .i64 (giS (subL l x.a x.b) 0 ((x.b : Int) - x.a))) (.int .i64 (giH (subL l x.a x.b) 0 ((x.b : Int) - x.a))) (.int .i64 (rfL (subL l x.a x.b) 0 ((x.b : Int) - x.a))) xq xr xt xu xv xw xx) hQ (fun w _ => by kernel_rfl) hS1 ?_
 refine take_r 16 ⟨some 7,.assign (.tmp 23),3,ps,#[⟨13,.data⟩,⟨11,.chain⟩,⟨0,.phase⟩,⟨1,.phase⟩,⟨2,.phase⟩,⟨3,.phase⟩,⟨4,.phase⟩,⟨5,.phase⟩,⟨6,.phase⟩,⟨7,.phase⟩,⟨8,.phase⟩,⟨9,.phase⟩,⟨10,.phase⟩,⟨11,.phase⟩,⟨12,.phase⟩,⟨13,.phase⟩,⟨14,.textOnly .lateStores⟩,⟨15,.textOnly .lateStores⟩],none⟩ (.int .i64 (giS (subL l x.a x.b) 0 ((x.b : Int) - x.a))) hQ (fun w _ => by kernel_rfl) hS1 ?_
 refine take_k 17 (opp35_1_17 ps) (.int .i64 (giH (subL l x.a x.b) 0 ((x.b : Int) - x.a))) (frp35 (.slice a1 l.length cap) v1 v2 v3 (.pointer (some ⟨X,0,none⟩)) (.pointer (some ⟨X + 1,0,none⟩)) v6 (.int .i64 (giS (subL l x.a x.b) 0 ((x.b : Int) - x.a))) (.int .i64 (giH (subL l x.a x.b) 0 ((x.b : Int) - x.a))) v9 (.tuple #[.int .i64 (giS (subL l x.a x.b) 0 ((x.b : Int) - x.a)),.int .i64 (giH (subL l x.a x.b) 0 ((x.b : Int) - x.a)),.int .i64 (rfL (subL l x.a x.b) 0 ((x.b : Int) - x.a))]) (.slice a1 l.length cap) (.pointer (some ⟨X,0,none⟩)) (.int .i64 (x.a : Nat)) (.pointer (some ⟨X,1,none⟩)) (.int .i64 (x.b : Nat)) (.slice a2 (x.b - x.a) (cap - x.a)) (.pointer (some ⟨X,1,none⟩)) (.int .i64 (x.b : Nat)) (.pointer (some ⟨X,0,none⟩)) (.int .i64 (x.a : Nat)) (.int .i64 ((x.b : Int) - x.a)) (.tuple #[.int .i64 (giS (subL l x.a x.b) 0 ((x.b : Int) - x.a)),.int .i64 (giH (subL l x.a x.b) 0 ((x.b : Int) - x.a)),.int .i64 (rfL (subL l x.a x.b) 0 ((x.b : Int) - x.a))]) (.int .i64 (giS (subL l x.a x.b) 0 ((x.b : Int) - x.a))) (.int .i64 (giH (subL l x.a x.b) 0 ((x.b : Int) - x.a))) (.int .i64 (rfL (subL l x.a x.b) 0 ((x.b : Int) - x.a))) xq xr xt xu xv xw xx) hQ (fun w _ => by kernel_rfl) hS1 ?_
 refine take_r 18 ⟨some 9,.assign (.tmp 25),36,ps,#[⟨15,.data⟩,⟨17,.chain⟩,⟨0,.phase⟩,⟨1,.phase⟩,⟨2,.phase⟩,⟨3,.phase⟩,⟨4,.phase⟩,⟨5,.phase⟩,⟨6,.phase⟩,⟨7,.phase⟩,⟨8,.phase⟩,⟨9,.phase⟩,⟨10,.phase⟩,⟨11,.phase⟩,⟨12,.phase⟩,⟨13,.phase⟩,⟨14,.phase⟩,⟨15,.phase⟩,⟨16,.phase⟩,⟨17,.phase⟩],none⟩ (.int .i64 (rfL (subL l x.a x.b) 0 ((x.b : Int) - x.a))) hQ (fun w _ => by kernel_rfl) hS1 ?_
 exact wpAnyH_done (by kernel_rfl) (hq _ hz1 hS1) _
theorem wide35 (v : Value) (l : List It) (x : Pc) (s : Sl) (hck : ckL l = 0) (hx : x.a ≤ x.b ∧ x.b ≤ l.length) (hs : okS s = true) (w : World) (hS : ItsAt w v l) : Calls Tryz.prog 16 #[v,.agg (pcL x).toArray,.agg (slL s).toArray] w fun e w' => e = .returned (.bool (wdB l x s)) ∧ Below w.heap.size w w' := by
 have hB := below2 w (.cells (pcL x).toArray 56) (.cells (slL s).toArray 32)
 have hl8 := ck_len hck
 have hgr := giH_rng (sub_ck hck (f := x.a) hx.2) 0 ((x.b : Int) - x.a)
 have hsr := okS_rng hs
 obtain ⟨a1,cap,rfl,-⟩ := hS.ex
 have hle := hS.le _ _ _ rfl
 obtain ⟨a2,hsl,ha2⟩ := slice55 a1 l.length cap x.a x.b hx.1 (by omega)
 have hW : Hid (WiW w.heap.size x s l (.slice a1 l.length cap) (.slice a2 (x.b - x.a) (cap - x.a)) ((w.alloc (.cells (pcL x).toArray 56)).alloc (.cells (slL s).toArray 32))) := ⟨(Below.heap_alloc _ _ _ (by simp)).trans (World.alloc_heap_new w _),alloc2_heap w _ _,hS.below hB (Nat.le_refl _),sub_its (hS.below hB (Nat.le_refl _)) hx.1 hx.2 ha2⟩
 have hBh : Hid (Below w.heap.size w ((w.alloc (.cells (pcL x).toArray 56)).alloc (.cells (slL s).toArray 32))) := hB
 have hxh : Hid (x.a ≤ x.b ∧ x.b ≤ 8192) := ⟨hx.1,by omega⟩
 have hslh : Hid (∀ W,(Instr.slice 48 (.slice a1 l.length cap) (some (.int .i64 (x.a : Nat))) (some (.int .i64 (x.b : Nat))) none).run Tryz.prog W = .ok (.slice a2 (x.b - x.a) (cap - x.a)) W) := hsl
 clear hB hS hck hx hle hsl ha2 hl8 hs
 unfold wdB
 go_enter Tryz.func16,Tryz.ntmps16
 go_wp2_with fail
 generalize (w.alloc (.cells (pcL x).toArray 56)).alloc (.cells (slL s).toArray 32) = wz at *
 refine wi_r1 _ (fun _ _ _ _ _ h => h) _ _ w w.heap.size x s l a1 a2 cap wz ⟨hW.out.px,hW.out.ps,hW.out.hl.below (below_drew _) (Nat.le_refl _),hW.out.hu.below (below_drew _) (Nat.le_refl _)⟩ hBh.out.drew hxh.out hslh.out ?_
 intro w3 hz3 hS3
 have e4 := hS3.c4
 have e5 := hS3.d1
 clear hS3 hslh hxh hBh hW
 obtain ⟨gh,hgh⟩ : ∃ gh,gh = giH (subL l x.a x.b) 0 ((x.b : Int) - x.a) := ⟨_,rfl⟩
 rw [← hgh] at hgr ⊢
 have hghh : Hid (gh = giH (subL l x.a x.b) 0 ((x.b : Int) - x.a)) := hgh
 clear hgh
 obtain ⟨g1,g2⟩ := hgr
 obtain ⟨-,s1,s2⟩ := hsr
 unfold frp35
 go_wp2_with fail
 go_ret
 exact ⟨by rw [← hghh.out]; rfl,hz3⟩
theorem flag34 (a b : Bool) (w : World) : Calls Tryz.prog 15 #[.bool a,.bool b] w fun e w' => e = .returned (.int .i64 ((if a then 1 else 0) + (if b then 2 else 0))) ∧ w' = w := by
 cases a <;> cases b
 all_goals go_enter Tryz.func15,Tryz.ntmps15
 all_goals go_wp2_with fail
 all_goals go_ret
 all_goals exact ⟨by simp,rfl⟩
end Go.Proofs.YtfiekhephkpdjaaGreatDoor
