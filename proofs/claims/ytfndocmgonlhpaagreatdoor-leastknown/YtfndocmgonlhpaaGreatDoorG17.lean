/-
  What is proved here: what path of least answers.
  What is proved here: the drawn region of Demerits of least.
-/
import Derived.Test.YtfndocmgonlhpaaGreatDoorG16
import Derived.Test.YtfndocmgonlhpaaGreatDoorG1
namespace Go.Proofs.YtfndocmgonlhpaaGreatDoor
open Go.RowKit Go.Shelf
set_option maxRecDepth 100000
set_option maxHeartbeats 4000000

abbrev IntsAt (W : World) (v : Value) (d : List Int) : Prop := RecAt 1 (fun x : Int => [Value.int .i64 x]) W v d
theorem ints_at {W : World} {a : Option Addr} {n cap : Nat} {d : List Int} (h : IntsAt W (.slice a n cap) d) {i : Nat} (hi : i < d.length) : ∃ b o,a = some ⟨b,o,none⟩ ∧ b < W.heap.size ∧ ∀ W',Below W.heap.size W W' → W'.cell? ⟨b,o + i,none⟩ = some (.int .i64 d[i]) := by
 obtain ⟨a',cap',h1,h2⟩ := h.ex
 cases h1
 rcases h2 with h2 | ⟨b,o,rfl,hb,hc⟩
 ·subst h2; simp at hi
 ·refine ⟨b,o,rfl,hb,fun W' hW => ?_⟩
  have := hc i hi 0 _ rfl
  rw [Nat.mul_one,Nat.add_zero] at this
  exact (hW.cell hb).trans this
def PaEnd (l : List It) (bs : List Int) (w : World) (e : Ending) (w' : World) : Prop := ((paO l bs = none ∧ e = .returned (.tuple #[.slice none 0 0,.bool false])) ∨ ∃ v sts,paO l bs = some sts ∧ e = .returned (.tuple #[v,.bool true]) ∧ StsAt w' v sts) ∧ Below w.heap.size w w'
theorem paG_no {l : List It} {p : Nat} {bs : List Int} {k : Nat} (hk : k < bs.length) (h : bs[k] ≤ p ∨ (l.length : Int) < bs[k] ∨ enB l bs[k].toNat = false) : paG l p (bs.drop k) = none := by
 rw [List.drop_eq_getElem_cons hk]
 unfold paG
 rw [if_pos h]
theorem paG_go {l : List It} {p : Nat} {bs : List Int} {k : Nat} (hk : k < bs.length) (h : ¬ (bs[k] ≤ p ∨ (l.length : Int) < bs[k] ∨ enB l bs[k].toNat = false)) : paG l p (bs.drop k) = (paG l (bgN l bs[k].toNat) (bs.drop (k + 1))).map (stS l bs[k].toNat :: ·) := by
 rw [List.drop_eq_getElem_cons hk]
 conv => lhs; unfold paG
 rw [if_neg h]
theorem stS_n (l : List It) (b : Nat) : (stS l b).n = bgN l b := by unfold stS; split <;> rfl
theorem path_any (v va vb vs : Value) (l : List It) (bs : List Int) (h : ckL l = 0) (hbl : bs.length ≤ 9223372036854775807) (w : World) (hR : RuAt w v va vb l) (hV : IntsAt w vs bs) : Calls Tryz.prog 52 #[.agg (ruA v va vb),vs] w (PaEnd l bs w) := by
 have h8 := ck_len h
 have h8' : (l.length : Int) ≤ 8192 := by omega
 have hskl := sk_len (l := l)
 obtain ⟨a0,c0,rfl,-⟩ := hR.i.ex
 obtain ⟨a1,c1,rfl,-⟩ := hR.a.ex
 obtain ⟨a2,c2,rfl,-⟩ := hR.b.ex
 obtain ⟨a3,c3,rfl,-⟩ := hV.ex
 generalize (alL l).length = n1 at *
 generalize (baL l).length = n2 at *
 have hb0 := (Below.refl w.heap.size w).alloc (Nat.le_refl _) (.cells #[.slice a0 l.length c0,.slice a1 n1 c1,.slice a2 n2 c2] 50)
 have hbox : (w.alloc (.cells #[.slice a0 l.length c0,.slice a1 n1 c1,.slice a2 n2 c2] 50)).heap[w.heap.size]? = some (.cells #[.slice a0 l.length c0,.slice a1 n1 c1,.slice a2 n2 c2] 50 (0,0)) := World.alloc_heap_new w _
 have hsz0 : (w.alloc (.cells #[.slice a0 l.length c0,.slice a1 n1 c1,.slice a2 n2 c2] 50)).heap.size = w.heap.size + 1 := World.size_alloc _ _
 have hbeg : Hid (∀ W,Below w.heap.size w W → Calls Tryz.prog 29 #[.agg #[.slice a0 l.length c0,.slice a1 n1 c1,.slice a2 n2 c2]] W fun e w' => e = .returned (.agg (stL (bgS l)).toArray) ∧ Below W.heap.size W w') := fun W hW => beginning_any _ _ _ l h W (hR.below hW (Nat.le_refl _))
 have hst : Hid (∀ b W,b ≤ l.length → Below w.heap.size w W → Calls Tryz.prog 31 #[.agg #[.slice a0 l.length c0,.slice a1 n1 c1,.slice a2 n2 c2],.int .i64 (b : Nat)] W fun e w' => e = .returned (.agg (stL (stS l b)).toArray) ∧ Below W.heap.size W w') := fun b W hb hW => stop_any _ _ _ l b h hb W (hR.below hW (Nat.le_refl _))
 have hlg : Hid (∀ b W,0 < b → b ≤ l.length → Below w.heap.size w W → Calls Tryz.prog 30 #[.slice a0 l.length c0,.int .i64 (b : Nat)] W fun e w' => e = .returned (.bool (enB l b)) ∧ Below W.heap.size W w') := fun b W h0 hb hW => legal30_any _ l b h h0 hb W (hR.i.below hW (Nat.le_refl _))
 have hI0 : Hid (∀ W,Below (w.alloc (.cells #[.slice a0 l.length c0,.slice a1 n1 c1,.slice a2 n2 c2] 50)).heap.size (w.alloc (.cells #[.slice a0 l.length c0,.slice a1 n1 c1,.slice a2 n2 c2] 50)) W → SpI w #[.slice a0 l.length c0,.slice a1 n1 c1,.slice a2 n2 c2] (.slice (some ⟨W.heap.size,0,none⟩) 1 1) [bgS l] (W.alloc (.cells (stL (bgS l)).toArray 91))) := fun W hW => by
  have hs : w.heap.size + 1 ≤ W.heap.size := by have := hW.size; simpa using this
  have hlow := hb0.trans (hW.mono hb0.size)
  exact ⟨hlow.alloc (by omega) _,(Below.heap_alloc _ _ _ (by omega)).trans ((hW.block _ (by simp)).trans hbox),row_new stL_len W _ hs 91 _⟩
 have hk00 : (w.alloc (.cells #[.slice a0 l.length c0,.slice a1 n1 c1,.slice a2 n2 c2] 50)).cell? ⟨w.heap.size,0,none⟩ = some (.slice a0 l.length c0) := by rw [Lib.cell_of_heap hbox]; rfl
 have hk01 : (w.alloc (.cells #[.slice a0 l.length c0,.slice a1 n1 c1,.slice a2 n2 c2] 50)).cell? ⟨w.heap.size,1,none⟩ = some (.slice a1 n1 c1) := by rw [Lib.cell_of_heap hbox]; rfl
 have hk02 : (w.alloc (.cells #[.slice a0 l.length c0,.slice a1 n1 c1,.slice a2 n2 c2] 50)).cell? ⟨w.heap.size,2,none⟩ = some (.slice a2 n2 c2) := by rw [Lib.cell_of_heap hbox]; rfl
 have hlow0 : Hid (Below w.heap.size w (w.alloc (.cells #[.slice a0 l.length c0,.slice a1 n1 c1,.slice a2 n2 c2] 50))) := hb0
 have hVh : Hid (∀ i (hi : i < bs.length),∃ b o,a3 = some ⟨b,o,none⟩ ∧ b < w.heap.size ∧ ∀ W',Below w.heap.size w W' → W'.cell? ⟨b,o + i,none⟩ = some (.int .i64 bs[i])) := fun i hi => ints_at hV hi
 have hno : Hid (paO l bs = none → ∀ W,Below w.heap.size w W → PaEnd l bs w (.returned (.tuple #[.slice none 0 0,.bool false])) W) := fun e W hW => ⟨.inl ⟨e,rfl⟩,hW⟩
 have hyes : Hid (∀ v sts W,paO l bs = some sts → StsAt W v sts → Below w.heap.size w W → PaEnd l bs w (.returned (.tuple #[v,.bool true])) W) := fun v sts W e1 e2 hW => ⟨.inr ⟨v,sts,e1,rfl,e2⟩,hW⟩
 have hbl2 : (bs.length : Int) ≤ 9223372036854775807 := by omega
 clear hR hb0 hbox h hV
 show Calls Tryz.prog 52 #[.agg #[.slice a0 l.length c0,.slice a1 n1 c1,.slice a2 n2 c2],.slice a3 bs.length c3] w _
 by_cases hz : bs.length = 0
 ·have hbz : bs = [] := List.eq_nil_of_length_eq_zero hz
  have hend := hno.out (by rw [hbz]; rfl)
  rw [hz] at *
  clear hz hbz hno hyes hVh hst hlg hbeg hI0
  go_enter Tryz.func52,Tryz.ntmps52
  go_wp2_with fail
  generalize w.alloc (.cells #[.slice a0 l.length c0,.slice a1 n1 c1,.slice a2 n2 c2] 50) = wz at *
  go_quiet (fail)
  go_wp2_with fail
  go_ret2
  exact hend _ (below_drewN hlow0.out _)
 ·have hz0 : bs.length - 1 < bs.length := by omega
  have hz1 : (1 : Int) ≤ bs.length := by omega
  have hzb : ((bs.length : Int) == 0) = false := by rw [beq_eq_false_iff_ne]; omega
  obtain ⟨g3,o3,rfl,hg3,hcl3⟩ := hVh.out (bs.length - 1) hz0
  have hlast : bs.getLast? = some (bs[bs.length - 1]'hz0) := by rw [List.getLast?_eq_getElem?,List.getElem?_eq_getElem]
  have hcell := hcl3 _ hlow0.out
  by_cases hle : (bs[bs.length - 1]'hz0) = (l.length : Int)
  ·rw [hle] at hcell hlast
   have hpa : Hid (paO l bs = (paG l (sk l 0) (bs.drop 0)).map ([bgS l] ++ ·)) := by show _ = _; unfold paO; rw [if_pos hlast]; rfl
   clear hcl3 hlast hle
   go_enter Tryz.func52,Tryz.ntmps52
   go_wp2_with fail
   generalize w.alloc (.cells #[.slice a0 l.length c0,.slice a1 n1 c1,.slice a2 n2 c2] 50) = wz at *
   go_quiet (fail)
   have hwd : Hid (Below wz.heap.size wz (wz.drewN nq)) := below_drewN (Below.refl _ _) _
   have m0 : (wz.drewN nq).cell? ⟨w.heap.size,0,none⟩ = some (.slice a0 l.length c0) := hk00
   have m1 : (wz.drewN nq).cell? ⟨w.heap.size,1,none⟩ = some (.slice a1 n1 c1) := hk01
   have m2 : (wz.drewN nq).cell? ⟨w.heap.size,2,none⟩ = some (.slice a2 n2 c2) := hk02
   clear hk00 hk01 hk02 hcell
   generalize wz.drewN nq = wy at *
   have hlow1 : Hid (Below w.heap.size w wy) := hlow0.out.trans (hwd.out.mono hlow0.out.size)
   go_wp2_with (first | (go_at_call 29; refine (hbeg.out _ hlow1.out).mono ?_; rintro e w2 ⟨rfl,hb2⟩; have hIh : Hid (SpI w #[.slice a0 l.length c0,.slice a1 n1 c1,.slice a2 n2 c2] (.slice (some ⟨w2.heap.size,0,none⟩) 1 1) [bgS l] (w2.alloc (.cells (stL (bgS l)).toArray 91))) := hI0.out w2 (hwd.out.trans (hb2.mono hwd.out.size)); clear hb2 hbeg hI0 m0 m1 m2) | (refine wpList_build47 rfl _ rfl (bgS l) rfl ?_; generalize w2.alloc (.cells (stL (bgS l)).toArray 91) = w3 at *; generalize w2.heap.size = g2 at *))
   clear hlow1 hwd hlow0
   go_loopw [6,29] (fun v6 v29 wr => ∃ (k p g vc : Nat) (qs : List St),k ≤ bs.length ∧ v29 = .int .i64 k ∧ qs.length = k + 1 ∧ v6 = .slice (some ⟨g,0,none⟩) (k + 1) vc ∧ (k ≤ p ∧ p ≤ l.length) ∧ Hid (SpI w #[.slice a0 l.length c0,.slice a1 n1 c1,.slice a2 n2 c2] (.slice (some ⟨g,0,none⟩) (k + 1) vc) qs wr ∧ (qs.getD k st0).n = p) ∧ Hid (paO l bs = (paG l p (bs.drop k)).map (qs ++ ·))) (fun _ v29 _ => bs.length - (intOf v29).toNat)
   case atStart => exact ⟨0,sk l 0,g2,1,[bgS l],by omega,rfl,rfl,rfl,by omega,⟨hIh.out,rfl⟩,hpa⟩
   case round =>
    obtain ⟨k,p,g,vc,qs,hk,rfl,hql,rfl,⟨hkp,hpn⟩,hI,hq⟩ := hrel
    clear hIh hpa
    have k0 : wr.cell? ⟨w.heap.size,0,none⟩ = some (.slice a0 l.length c0) := by rw [Lib.cell_of_heap hI.out.1.box]; rfl
    have hlow : Hid (Below w.heap.size w wr) := hI.out.1.low
    by_cases hlt : k < bs.length
    ·have hlt' : (k : Int) < bs.length := by omega
     obtain ⟨g3',o3',e3,hg3',hcl⟩ := hVh.out k hlt
     cases e3
     have cb := hcl wr hlow.out
     have hk1 : (k : Int) < (k : Int) + 1 := by omega
     have hrow := hI.out.1.row
     obtain ⟨gq,capq,eq1,-,-,hrb⟩ := row_rb stL_len hrow (by omega)
     have hgq : g = gq := by injection eq1 with h1; injection h1 with h2; injection h2
     subst hgq
     clear eq1
     have cn : wr.cell? ⟨g,k * 12 + 1,none⟩ = some (.int .i64 (p : Nat)) := by
      have h1 := (hrb.all k (by omega) 1 (.int .i64 (qs[k]'(by omega)).n) rfl).1
      have h2 := hI.out.2
      rw [List.getD_eq_getElem?_getD,List.getElem?_eq_getElem (by omega)] at h2
      rw [← h2]; exact h1
     clear hrb hrow hcl
     by_cases hb1 : bs[k] ≤ p
     ·have hend := hno.out (by rw [hq.out,paG_no hlt (.inl hb1)]; rfl)
      clear hq hno hyes hVh hst hlg hI
      generalize bs[k] = xb at *
      go_wp2_with fail
      go_ret2
      exact hend _ hlow.out
     ·by_cases hb2 : (l.length : Int) < bs[k]
      ·have hend := hno.out (by rw [hq.out,paG_no hlt (.inr (.inl hb2))]; rfl)
       clear hq hno hyes hVh hst hlg hI
       generalize bs[k] = xb at *
       go_wp2_with fail
       go_ret2
       exact hend _ hlow.out
      ·have hbk : bs[k] = ((bs[k].toNat : Nat) : Int) := by omega
       have hble : bs[k].toNat ≤ l.length := by omega
       have hblt : p < bs[k].toNat := by omega
       have hlg1 : Hid (Calls Tryz.prog 30 #[.slice a0 l.length c0,.int .i64 (bs[k].toNat : Nat)] wr fun e w' => e = .returned (.bool (enB l bs[k].toNat)) ∧ Below wr.heap.size wr w') := hlg.out bs[k].toNat wr (by omega) hble hlow.out
       rw [hbk] at cb
       cases he : enB l bs[k].toNat with
       | false =>
        have hend := hno.out (by rw [hq.out,paG_no hlt (.inr (.inr he))]; rfl)
        rw [he] at hlg1
        clear hq hno hyes hVh hst hlg hI he
        generalize bs[k].toNat = b at *
        go_wp2_with (go_at_call 30; refine hlg1.out.mono ?_; rintro e w4 ⟨rfl,hb4⟩)
        go_ret2
        exact hend _ (hlow.out.trans (hb4.mono hlow.out.size))
       | true =>
        rw [he] at hlg1
        have hq2 : Hid (paO l bs = (paG l (bgN l bs[k].toNat) (bs.drop (k + 1))).map ((qs ++ [stS l bs[k].toNat]) ++ ·)) := by
         show _ = _
         rw [hq.out,paG_go hlt (fun h => by rcases h with h | h | h; exact hb1 h; exact hb2 h; rw [he] at h; cases h),Option.map_map]
         congr 1
         funext t
         simp
        have hbg2 := bg_le hble
        have hst1 : Hid (∀ W,Below wr.heap.size wr W → Calls Tryz.prog 31 #[.agg #[.slice a0 l.length c0,.slice a1 n1 c1,.slice a2 n2 c2],.int .i64 (bs[k].toNat : Nat)] W fun e w' => e = .returned (.agg (stL (stS l bs[k].toNat)).toArray) ∧ Below W.heap.size W w') := fun W hW => hst.out bs[k].toNat W hble (hlow.out.trans (hW.mono hlow.out.size))
        have hcl : Hid (∀ W,Below wr.heap.size wr W → W.cell? ⟨w.heap.size,0,none⟩ = some (.slice a0 l.length c0) ∧ W.cell? ⟨w.heap.size,1,none⟩ = some (.slice a1 n1 c1) ∧ W.cell? ⟨w.heap.size,2,none⟩ = some (.slice a2 n2 c2)) := fun W hW => by
         have hI2 := hI.out.1.next hW
         exact ⟨by rw [Lib.cell_of_heap hI2.box]; rfl,by rw [Lib.cell_of_heap hI2.box]; rfl,by rw [Lib.cell_of_heap hI2.box]; rfl⟩
        have hqn : Hid (qs.length ≤ 9000) := by show _ ≤ _; omega
        have hlast : Hid (((qs ++ [stS l bs[k].toNat]).getD (k + 1) st0).n = bgN l bs[k].toNat) := by
         show _ = _
         rw [List.getD_eq_getElem?_getD,List.getElem?_append_right (by omega),hql,Nat.sub_self]
         exact stS_n l _
        have hI1 : Hid (SpI w #[.slice a0 l.length c0,.slice a1 n1 c1,.slice a2 n2 c2] (.slice (some ⟨g,0,none⟩) qs.length vc) qs wr) := by rw [hql]; exact hI.out.1
        clear hq hno hyes hVh hst hlg hI he hbk
        generalize bs[k].toNat = b at *
        generalize bgN l b = nb at *
        go_wp2_with (first | (go_at_call 30; refine hlg1.out.mono ?_; rintro e w4 ⟨rfl,hb4⟩; obtain ⟨m0,m1,m2⟩ := hcl.out w4 hb4) | (go_at_call 31; refine (hst1.out w4 hb4).mono ?_; rintro e w5 ⟨rfl,hb5⟩; have hI5 : Hid (SpI w #[.slice a0 l.length c0,.slice a1 n1 c1,.slice a2 n2 c2] (.slice (some ⟨g,0,none⟩) qs.length vc) qs w5) := (hI1.out.next hb4).next hb5; clear hb4 hb5 m0 m1 m2 hst1 hlg1 hcl k0) | (refine wpList_build47 rfl _ rfl (stS l b) rfl ?_) | (refine wpList_app1 (k := 12) (f := stL) (w0 := w5) (bytes := 88) rfl el47 stL_len stL_one (by omega) (by omega) _ _ rfl (w.heap.size + 1) (.slice (some ⟨g,0,none⟩) qs.length vc) qs (stS l b) (by rw [hql]; rfl) hI5.out.row hI5.out.lt hqn.out rfl rfl ?_; intro v' w6 hr6 hb6; obtain ⟨g6,cap6,rfl,-,-,-⟩ := row_rb stL_len hr6 (by simp); have hI6 : Hid (SpI w #[.slice a0 l.length c0,.slice a1 n1 c1,.slice a2 n2 c2] (.slice (some ⟨g6,0,none⟩) (qs ++ [stS l b]).length cap6) (qs ++ [stS l b]) w6) := hI5.out.app hr6 hb6; clear hr6 hb6 hI5))
        exact ⟨⟨k + 1,nb,g6,cap6,qs ++ [stS l b],by omega,by simp,by simp [hql],rfl,by omega,⟨by have := hI6.out; rw [show (qs ++ [stS l b]).length = k + 1 + 1 by simp [hql]] at this; exact this,hlast.out⟩,hq2⟩,by simp [intOf]; omega⟩
    ·have hge : ¬ (k : Int) < bs.length := by omega
     have hend := hyes.out (.slice (some ⟨g,0,none⟩) (k + 1) vc) qs wr (by rw [hq.out,List.drop_of_length_le (by omega)]; simp [paG]) (by have := rec_of_row stL_len (rs := qs) rfl hI.out.1.row; exact this) hlow.out
     clear hq hno hyes hVh hst hlg hI
     go_wp2_with fail
     go_ret2
     exact hend
  ·have hend := hno.out (by unfold paO; rw [if_neg (by rw [hlast]; simpa using hle)])
   have hle' : ((bs[bs.length - 1]'hz0) != (l.length : Int)) = true := by simpa using hle
   generalize bs[bs.length - 1]'hz0 = xb at *
   clear hcl3 hno hyes hVh hst hlg hbeg hI0 hlast
   go_enter Tryz.func52,Tryz.ntmps52
   go_wp2_with fail
   generalize w.alloc (.cells #[.slice a0 l.length c0,.slice a1 n1 c1,.slice a2 n2 c2] 50) = wz at *
   go_quiet (fail)
   go_wp2_with fail
   go_ret2
   exact hend _ (below_drewN hlow0.out _)
end Go.Proofs.YtfndocmgonlhpaaGreatDoor

namespace Go.Proofs.YtfndocmgonlhpaaGreatDoor
open Go.RowKit Go.Shelf
set_option maxRecDepth 100000
set_option maxHeartbeats 1000000

structure DeS (Bx : Nat) (r : Sl) (g o k : Nat) (p q : St) (vs : Value) (ss : List Sl) (W : World) : Prop where
 box : W.heap[Bx]? = some (.cells (slL r).toArray 29 (0,0))
 p : StAt g (o + k * 12) p W
 q : StAt g (o + (k + 1) * 12) q W
 s : SlsAt W vs ss
theorem DeS.below {Bx : Nat} {r : Sl} {g o k : Nat} {p q : St} {vs : Value} {ss : List Sl} {W W' : World} (h : DeS Bx r g o k p q vs ss W) (hb : Below W.heap.size W W') : DeS Bx r g o k p q vs ss W' :=
 ⟨(hb.block _ (Array.getElem?_eq_some_iff.1 h.box).1).trans h.box,h.p.below hb h.p.lt,h.q.below hb h.q.lt,h.s.below hb (Nat.le_refl _)⟩
theorem info29l (p : Sl) : (Tryz.prog.info? 29).map (·.size) = some (slL p).length := by show _ = some 2; kernel_rfl
def fr23 (v0 v1 v2 v3 v4 v5 v6 v7 v8 v9 xa xb xc xd xe xf xg xh xi xj xk xl xm xn xo xp xq xr xt xu xv xw xx xy xz xA xB xC xD xE xF xG xH xI xJ xK xL xM xN xO xP xQ xR xS xT xU xV xW xX xY xZ : Value) : Act := { tmps := #[v0,v1,v2,v3,v4,v5,v6,v7,v8,v9,xa,xb,xc,xd,xe,xf,xg,xh,xi,xj,xk,xl,xm,xn,xo,xp,xq,xr,xt,xu,xv,xw,xx,xy,xz,xA,xB,xC,xD,xE,xF,xG,xH,xI,xJ,xK,xL,xM,xN,xO,xP,xQ,xR,xS,xT,xU,xV,xW,xX,xY,xZ],defers := [] }
def ops23_11_0 (ps : String) : Oper := ⟨some 39,.move (.tmp 11),47,ps,#[],none⟩
def ops23_11_1 (ps : String) : Oper := ⟨some 40,.move (.tmp 14),3,ps,#[],none⟩
def ops23_11_2 (ps : String) : Oper := ⟨some 41,.indexAddr 47 (.tmp 39) (.tmp 40),0,ps,#[⟨0,.data⟩,⟨1,.data⟩],none⟩
def ops23_11_3 (ps : String) : Oper := ⟨some 42,.move (.tmp 11),47,ps,#[],none⟩
def ops23_11_4 (ps : String) : Oper := ⟨some 43,.move (.tmp 14),3,ps,#[],none⟩
def ops23_11_5 (ps : String) : Oper := ⟨some 44,.binOp .add 3 (.tmp 43) (.const (.int .i64 1)) 3,3,ps,#[⟨4,.data⟩],none⟩
def ops23_11_6 (ps : String) : Oper := ⟨some 45,.indexAddr 47 (.tmp 42) (.tmp 44),0,ps,#[⟨3,.data⟩,⟨5,.data⟩],none⟩
def ops23_11_7 (ps : String) : Oper := ⟨some 46,.move (.tmp 1),42,ps,#[],none⟩
def ops23_11_8 (ps : String) : Oper := ⟨some 47,.load 29 (.tmp 6),29,ps,#[],none⟩
def ops23_11_9 (ps : String) : Oper := ⟨some 48,.move (.tmp 14),3,ps,#[],none⟩
def ops23_11_10 (ps : String) : Oper := ⟨some 49,.call ⟨.value (.func 33),#[.tmp 46,.tmp 47,.tmp 48],#[42,29,3]⟩,29,ps,#[⟨7,.data⟩,⟨8,.data⟩,⟨9,.data⟩],none⟩
def ops23_11_11 (ps : String) : Oper := ⟨some 50,.field 29 (.tmp 49) 1,3,ps,#[⟨10,.data⟩],none⟩
def ops23_11_12 (ps : String) : Oper := ⟨some 51,.call ⟨.value (.func 53),#[.tmp 41,.tmp 45,.tmp 50],#[96,96,3]⟩,131,ps,#[⟨2,.data⟩,⟨6,.data⟩,⟨11,.data⟩,⟨10,.chain⟩],none⟩
def ops23_11_13 (ps : String) : Oper := ⟨some 38,.move (.tmp 51),131,ps,#[⟨12,.data⟩],none⟩
def ops23_11_14 (ps : String) : Oper := ⟨some 52,.extract (.tmp 38) 0,3,ps,#[⟨13,.data⟩],none⟩
def ops23_11_15 (ps : String) : Oper := ⟨some 53,.extract (.tmp 38) 1,4,ps,#[⟨13,.data⟩,⟨16,.gcOnly .lateStores⟩],none⟩
def ops23_11_16 (ps : String) : Oper := ⟨some 15,.assign (.tmp 52),3,ps,#[⟨14,.data⟩,⟨12,.chain⟩,⟨0,.phase⟩,⟨1,.phase⟩,⟨2,.phase⟩,⟨3,.phase⟩,⟨4,.phase⟩,⟨5,.phase⟩,⟨6,.phase⟩,⟨7,.phase⟩,⟨8,.phase⟩,⟨9,.phase⟩,⟨10,.phase⟩,⟨11,.phase⟩,⟨12,.phase⟩,⟨13,.phase⟩,⟨14,.phase⟩,⟨15,.textOnly .lateStores⟩],none⟩
def ops23_11_17 (ps : String) : Oper := ⟨some 16,.assign (.tmp 53),4,ps,#[⟨15,.data⟩,⟨16,.chain⟩,⟨0,.phase⟩,⟨1,.phase⟩,⟨2,.phase⟩,⟨3,.phase⟩,⟨4,.phase⟩,⟨5,.phase⟩,⟨6,.phase⟩,⟨7,.phase⟩,⟨8,.phase⟩,⟨9,.phase⟩,⟨10,.phase⟩,⟨11,.phase⟩,⟨12,.phase⟩,⟨13,.phase⟩,⟨14,.phase⟩,⟨15,.phase⟩,⟨16,.phase⟩],none⟩
def ops23_11 (ps : String) : Array Oper := #[ops23_11_0 ps,ops23_11_1 ps,ops23_11_2 ps,ops23_11_3 ps,ops23_11_4 ps,ops23_11_5 ps,ops23_11_6 ps,ops23_11_7 ps,ops23_11_8 ps,ops23_11_9 ps,ops23_11_10 ps,ops23_11_11 ps,ops23_11_12 ps,ops23_11_13 ps,ops23_11_14 ps,ops23_11_15 ps,ops23_11_16 ps,ops23_11_17 ps]

theorem de_r11 (Q : Exit → Act → World → Prop) (hQ : ∀ c x (n : Nat) v w,Q (.panic c) (x.put (some n) v) w → Q (.panic c) x w) (id : Nat) (ps : String) {v0 v2 v3 v4 v5 v7 v8 v9 xa xc xd xf xg xh xi xj xk xl xm xn xo xp xq xr xt xu xv xw xx xy xz xA xB xC xD xE xF xG xH xI xJ xK xL xM xN xO xP xQ xR xS xT xU xV xW xX xY xZ : Value} (Bx : Nat) (r : Sl) (g o k m mc : Nat) (p q : St) (a2 : Option Addr) (n2 c2 : Nat) (ss : List Sl) (w : World) (hS : DeS Bx r g o k p q (.slice a2 n2 c2) ss (World.drew w))
  (hc1 : Hid (∀ W,DeS Bx r g o k p q (.slice a2 n2 c2) ss W → Calls Tryz.prog 33 #[.slice a2 n2 c2,.agg (slL r).toArray,.int .i64 (k : Nat)] W fun e w' => e = .returned (.agg (slL (slN ss r k)).toArray) ∧ Below W.heap.size W w'))
  (hc2 : Hid (∀ W,DeS Bx r g o k p q (.slice a2 n2 c2) ss W → Calls Tryz.prog 53 #[.pointer (some ⟨g,o + k * 12,none⟩),.pointer (some ⟨g,o + (k + 1) * 12,none⟩),.int .i64 (slN ss r k).w] W fun e w' => e = .returned (.tuple #[.int .i64 (dmV p q (slN ss r k).w),.bool (dmB p q (slN ss r k).w)]) ∧ Below W.heap.size W w'))
  (hk : (k : Int) < m) (hk1 : (k : Int) + 1 < m) (hm : (m : Int) ≤ 9000)
  (hq : ∀ w',Below w.heap.size w w' → Q .normal (fr23 v0 (.slice a2 n2 c2) v2 v3 v4 v5 (.pointer (some ⟨Bx,0,none⟩)) v7 v8 v9 xa (.slice (some ⟨g,o,none⟩) m mc) xc xd (.int .i64 (k : Nat)) (.int .i64 (dmV p q (slN ss r k).w)) (.bool (dmB p q (slN ss r k).w)) xh xi xj xk xl xm xn xo xp xq xr xt xu xv xw xx xy xz xA xB xC (.tuple #[.int .i64 (dmV p q (slN ss r k).w),.bool (dmB p q (slN ss r k).w)]) (.slice (some ⟨g,o,none⟩) m mc) (.int .i64 (k : Nat)) (.pointer (some ⟨g,o + k * 12,none⟩)) (.slice (some ⟨g,o,none⟩) m mc) (.int .i64 (k : Nat)) (.int .i64 ((k : Nat) + 1)) (.pointer (some ⟨g,o + (k + 1) * 12,none⟩)) (.slice a2 n2 c2) (.agg (slL r).toArray) (.int .i64 (k : Nat)) (.agg (slL (slN ss r k)).toArray) (.int .i64 (slN ss r k).w) (.tuple #[.int .i64 (dmV p q (slN ss r k).w),.bool (dmB p q (slN ss r k).w)]) (.int .i64 (dmV p q (slN ss r k).w)) (.bool (dmB p q (slN ss r k).w)) xT xU xV xW xX xY xZ) w') :
  (Code.region id (ops23_11 ps) true).wp Tryz.prog Q (fr23 v0 (.slice a2 n2 c2) v2 v3 v4 v5 (.pointer (some ⟨Bx,0,none⟩)) v7 v8 v9 xa (.slice (some ⟨g,o,none⟩) m mc) xc xd (.int .i64 (k : Nat)) xf xg xh xi xj xk xl xm xn xo xp xq xr xt xu xv xw xx xy xz xA xB xC xD xE xF xG xH xI xJ xK xL xM xN xO xP xQ xR xS xT xU xV xW xX xY xZ) w := by
 refine wp_region_held (S := DeS Bx r g o k p q (.slice a2 n2 c2) ss) (by kernel_rfl) ?_
 change wpAnyH _ _ _ _ _ 18 _ _ (World.drew w)
 refine take_r 0 ⟨some 39,.move (.tmp 11),47,ps,#[],none⟩ (.slice (some ⟨g,o,none⟩) m mc) hQ (fun w _ => by kernel_rfl) hS ?_
 refine take_k 1 (ops23_11_1 ps) (.int .i64 (k : Nat)) (fr23 v0 (.slice a2 n2 c2) v2 v3 v4 v5 (.pointer (some ⟨Bx,0,none⟩)) v7 v8 v9 xa (.slice (some ⟨g,o,none⟩) m mc) xc xd (.int .i64 (k : Nat)) xf xg xh xi xj xk xl xm xn xo xp xq xr xt xu xv xw xx xy xz xA xB xC xD (.slice (some ⟨g,o,none⟩) m mc) (.int .i64 (k : Nat)) xG xH xI xJ xK xL xM xN xO xP xQ xR xS xT xU xV xW xX xY xZ) hQ (fun w _ => by kernel_rfl) hS ?_
 refine take_r 2 ⟨some 41,.indexAddr 47 (.tmp 39) (.tmp 40),0,ps,#[⟨0,.data⟩,⟨1,.data⟩],none⟩ (.pointer (some ⟨g,o + k * 12,none⟩)) hQ (fun w hS => by unfold fr23; go_simp) hS ?_
 refine take_k 3 (ops23_11_3 ps) (.slice (some ⟨g,o,none⟩) m mc) (fr23 v0 (.slice a2 n2 c2) v2 v3 v4 v5 (.pointer (some ⟨Bx,0,none⟩)) v7 v8 v9 xa (.slice (some ⟨g,o,none⟩) m mc) xc xd (.int .i64 (k : Nat)) xf xg xh xi xj xk xl xm xn xo xp xq xr xt xu xv xw xx xy xz xA xB xC xD (.slice (some ⟨g,o,none⟩) m mc) (.int .i64 (k : Nat)) (.pointer (some ⟨g,o + k * 12,none⟩)) (.slice (some ⟨g,o,none⟩) m mc) xI xJ xK xL xM xN xO xP xQ xR xS xT xU xV xW xX xY xZ) hQ (fun w _ => by kernel_rfl) hS ?_
 refine take_r 4 ⟨some 43,.move (.tmp 14),3,ps,#[],none⟩ (.int .i64 (k : Nat)) hQ (fun w _ => by kernel_rfl) hS ?_
 refine take_k 5 (ops23_11_5 ps) (.int .i64 ((k : Nat) + 1)) (fr23 v0 (.slice a2 n2 c2) v2 v3 v4 v5 (.pointer (some ⟨Bx,0,none⟩)) v7 v8 v9 xa (.slice (some ⟨g,o,none⟩) m mc) xc xd (.int .i64 (k : Nat)) xf xg xh xi xj xk xl xm xn xo xp xq xr xt xu xv xw xx xy xz xA xB xC xD (.slice (some ⟨g,o,none⟩) m mc) (.int .i64 (k : Nat)) (.pointer (some ⟨g,o + k * 12,none⟩)) (.slice (some ⟨g,o,none⟩) m mc) (.int .i64 (k : Nat)) (.int .i64 ((k : Nat) + 1)) xK xL xM xN xO xP xQ xR xS xT xU xV xW xX xY xZ) hQ (fun w hS => by unfold fr23 ops23_11_5; go_simp; try exact wrap_i (by omega) (by omega)) hS ?_
 refine take_r 6 ⟨some 45,.indexAddr 47 (.tmp 42) (.tmp 44),0,ps,#[⟨3,.data⟩,⟨5,.data⟩],none⟩ (.pointer (some ⟨g,o + (k + 1) * 12,none⟩)) hQ (fun w hS => by unfold fr23; go_simp; try (intro h; exfalso; omega)) hS ?_
 refine take_k 7 (ops23_11_7 ps) (.slice a2 n2 c2) (fr23 v0 (.slice a2 n2 c2) v2 v3 v4 v5 (.pointer (some ⟨Bx,0,none⟩)) v7 v8 v9 xa (.slice (some ⟨g,o,none⟩) m mc) xc xd (.int .i64 (k : Nat)) xf xg xh xi xj xk xl xm xn xo xp xq xr xt xu xv xw xx xy xz xA xB xC xD (.slice (some ⟨g,o,none⟩) m mc) (.int .i64 (k : Nat)) (.pointer (some ⟨g,o + k * 12,none⟩)) (.slice (some ⟨g,o,none⟩) m mc) (.int .i64 (k : Nat)) (.int .i64 ((k : Nat) + 1)) (.pointer (some ⟨g,o + (k + 1) * 12,none⟩)) (.slice a2 n2 c2) xM xN xO xP xQ xR xS xT xU xV xW xX xY xZ) hQ (fun w _ => by kernel_rfl) hS ?_
 refine take_r 8 ⟨some 47,.load 29 (.tmp 6),29,ps,#[],none⟩ (.agg (slL r).toArray) hQ (fun w hS => exec_load_mid (x := (Operand.tmp 6)) 29 Bx 0 (slL r) _ (by kernel_rfl) (by kernel_rfl) (range_row hS.box) Tryz.underlying29 rfl (info29l r)) hS ?_
 refine take_k 9 (ops23_11_9 ps) (.int .i64 (k : Nat)) (fr23 v0 (.slice a2 n2 c2) v2 v3 v4 v5 (.pointer (some ⟨Bx,0,none⟩)) v7 v8 v9 xa (.slice (some ⟨g,o,none⟩) m mc) xc xd (.int .i64 (k : Nat)) xf xg xh xi xj xk xl xm xn xo xp xq xr xt xu xv xw xx xy xz xA xB xC xD (.slice (some ⟨g,o,none⟩) m mc) (.int .i64 (k : Nat)) (.pointer (some ⟨g,o + k * 12,none⟩)) (.slice (some ⟨g,o,none⟩) m mc) (.int .i64 (k : Nat)) (.int .i64 ((k : Nat) + 1)) (.pointer (some ⟨g,o + (k + 1) * 12,none⟩)) (.slice a2 n2 c2) (.agg (slL r).toArray) (.int .i64 (k : Nat)) xO xP xQ xR xS xT xU xV xW xX xY xZ) hQ (fun w _ => by kernel_rfl) hS ?_
 refine want_k 10 (ops23_11_10 ps) fun K hK => ?_
 unfold fr23 ops23_11_10
 go_simp
 refine (hc1.out _ hS).mono ?_
 rintro e w1 ⟨rfl,B1⟩
 have hS1 : DeS Bx r g o k p q (.slice a2 n2 c2) ss w1 := hS.below B1
 refine hK _ _ hS1 (cast_h (fr23 v0 (.slice a2 n2 c2) v2 v3 v4 v5 (.pointer (some ⟨Bx,0,none⟩)) v7 v8 v9 xa (.slice (some ⟨g,o,none⟩) m mc) xc xd (.int .i64 (k : Nat)) xf xg xh xi xj xk xl xm xn xo xp xq xr xt xu xv xw xx xy xz xA xB xC xD (.slice (some ⟨g,o,none⟩) m mc) (.int .i64 (k : Nat)) (.pointer (some ⟨g,o + k * 12,none⟩)) (.slice (some ⟨g,o,none⟩) m mc) (.int .i64 (k : Nat)) (.int .i64 ((k : Nat) + 1)) (.pointer (some ⟨g,o + (k + 1) * 12,none⟩)) (.slice a2 n2 c2) (.agg (slL r).toArray) (.int .i64 (k : Nat)) (.agg (slL (slN ss r k)).toArray) xP xQ xR xS xT xU xV xW xX xY xZ) (by kernel_rfl) ?_)
 clear hK K
 refine take_r 11 ⟨some 50,.field 29 (.tmp 49) 1,3,ps,#[⟨10,.data⟩],none⟩ (.int .i64 (slN ss r k).w) hQ (fun w hS => by unfold fr23; go_simp; try rfl) hS1 ?_
 refine want_k 12 (ops23_11_12 ps) fun K hK => ?_
 unfold fr23 ops23_11_12
 go_simp
 refine (hc2.out _ hS1).mono ?_
 rintro e w2 ⟨rfl,B2⟩
 have hS2 : DeS Bx r g o k p q (.slice a2 n2 c2) ss w2 := hS1.below B2
 refine hK _ _ hS2 (cast_h (fr23 v0 (.slice a2 n2 c2) v2 v3 v4 v5 (.pointer (some ⟨Bx,0,none⟩)) v7 v8 v9 xa (.slice (some ⟨g,o,none⟩) m mc) xc xd (.int .i64 (k : Nat)) xf xg xh xi xj xk xl xm xn xo xp xq xr xt xu xv xw xx xy xz xA xB xC xD (.slice (some ⟨g,o,none⟩) m mc) (.int .i64 (k : Nat)) (.pointer (some ⟨g,o + k * 12,none⟩)) (.slice (some ⟨g,o,none⟩) m mc) (.int .i64 (k : Nat)) (.int .i64 ((k : Nat) + 1)) (.pointer (some ⟨g,o + (k + 1) * 12,none⟩)) (.slice a2 n2 c2) (.agg (slL r).toArray) (.int .i64 (k : Nat)) (.agg (slL (slN ss r k)).toArray) (.int .i64 (slN ss r k).w) (.tuple #[.int .i64 (dmV p q (slN ss r k).w),.bool (dmB p q (slN ss r k).w)]) xR xS xT xU xV xW xX xY xZ) (by kernel_rfl) ?_)
 clear hK K
 refine take_r 13 ⟨some 38,.move (.tmp 51),131,ps,#[⟨12,.data⟩],none⟩ (.tuple #[.int .i64 (dmV p q (slN ss r k).w),.bool (dmB p q (slN ss r k).w)]) hQ (fun w _ => by kernel_rfl) hS2 ?_
 refine take_k 14 (ops23_11_14 ps) (.int .i64 (dmV p q (slN ss r k).w)) (fr23 v0 (.slice a2 n2 c2) v2 v3 v4 v5 (.pointer (some ⟨Bx,0,none⟩)) v7 v8 v9 xa (.slice (some ⟨g,o,none⟩) m mc) xc xd (.int .i64 (k : Nat)) xf xg xh xi xj xk xl xm xn xo xp xq xr xt xu xv xw xx xy xz xA xB xC (.tuple #[.int .i64 (dmV p q (slN ss r k).w),.bool (dmB p q (slN ss r k).w)]) (.slice (some ⟨g,o,none⟩) m mc) (.int .i64 (k : Nat)) (.pointer (some ⟨g,o + k * 12,none⟩)) (.slice (some ⟨g,o,none⟩) m mc) (.int .i64 (k : Nat)) (.int .i64 ((k : Nat) + 1)) (.pointer (some ⟨g,o + (k + 1) * 12,none⟩)) (.slice a2 n2 c2) (.agg (slL r).toArray) (.int .i64 (k : Nat)) (.agg (slL (slN ss r k)).toArray) (.int .i64 (slN ss r k).w) (.tuple #[.int .i64 (dmV p q (slN ss r k).w),.bool (dmB p q (slN ss r k).w)]) (.int .i64 (dmV p q (slN ss r k).w)) xS xT xU xV xW xX xY xZ) hQ (fun w _ => by kernel_rfl) hS2 ?_
 refine take_r 15 ⟨some 53,.extract (.tmp 38) 1,4,ps,#[⟨13,.data⟩,⟨16,.gcOnly .lateStores⟩],none⟩ (.bool (dmB p q (slN ss r k).w)) hQ (fun w _ => by kernel_rfl) hS2 ?_
 refine take_k 16 (ops23_11_16 ps) (.int .i64 (dmV p q (slN ss r k).w)) (fr23 v0 (.slice a2 n2 c2) v2 v3 v4 v5 (.pointer (some ⟨Bx,0,none⟩)) v7 v8 v9 xa (.slice (some ⟨g,o,none⟩) m mc) xc xd (.int .i64 (k : Nat)) (.int .i64 (dmV p q (slN ss r k).w)) xg xh xi xj xk xl xm xn xo xp xq xr xt xu xv xw xx xy xz xA xB xC (.tuple #[.int .i64 (dmV p q (slN ss r k).w),.bool (dmB p q (slN ss r k).w)]) (.slice (some ⟨g,o,none⟩) m mc) (.int .i64 (k : Nat)) (.pointer (some ⟨g,o + k * 12,none⟩)) (.slice (some ⟨g,o,none⟩) m mc) (.int .i64 (k : Nat)) (.int .i64 ((k : Nat) + 1)) (.pointer (some ⟨g,o + (k + 1) * 12,none⟩)) (.slice a2 n2 c2) (.agg (slL r).toArray) (.int .i64 (k : Nat)) (.agg (slL (slN ss r k)).toArray) (.int .i64 (slN ss r k).w) (.tuple #[.int .i64 (dmV p q (slN ss r k).w),.bool (dmB p q (slN ss r k).w)]) (.int .i64 (dmV p q (slN ss r k).w)) (.bool (dmB p q (slN ss r k).w)) xT xU xV xW xX xY xZ) hQ (fun w _ => by kernel_rfl) hS2 ?_
 refine take_r 17 ⟨some 16,.assign (.tmp 53),4,ps,#[⟨15,.data⟩,⟨16,.chain⟩,⟨0,.phase⟩,⟨1,.phase⟩,⟨2,.phase⟩,⟨3,.phase⟩,⟨4,.phase⟩,⟨5,.phase⟩,⟨6,.phase⟩,⟨7,.phase⟩,⟨8,.phase⟩,⟨9,.phase⟩,⟨10,.phase⟩,⟨11,.phase⟩,⟨12,.phase⟩,⟨13,.phase⟩,⟨14,.phase⟩,⟨15,.phase⟩,⟨16,.phase⟩],none⟩ (.bool (dmB p q (slN ss r k).w)) hQ (fun w _ => by kernel_rfl) hS2 ?_
 exact wpAnyH_done (by kernel_rfl) (hq _ (((below_drew w).trans B1).trans (B2.mono B1.size))) _
end Go.Proofs.YtfndocmgonlhpaaGreatDoor
