/-
  What is proved here: what behindSign and cut of item answer.
  What is proved here: what cut of item answers.
  What is proved here: the statement of item's closure that closes a run, in whatever order its operations come up.
-/
import Derived.Test.YtaphggjakaghjaaGreatDoorG20
namespace Go.Proofs.YtaphggjakaghjaaGreatDoor
open Go.RowKit Go.Shelf
set_option maxRecDepth 100000
set_option maxHeartbeats 2000000

def bsB (t : ByteArray) (l : List Ms) (i : Nat) : Bool := decide (2 ≤ i) && sgB t (mAt l (i - 1)) && !sgB t (mAt l i) && !alB (mAt l (i - 2))
theorem mOk_w {m : Ms} (h : mOk m = true) : 0 ≤ m.w ∧ m.w ≤ 4095 := (of_decide_eq_true h).1
theorem ms_cells {W W' : World} {a : Option Addr} {n cap : Nat} {l : List Ms} (h : RecAt 6 msL W (.slice a n cap) l) {i : Nat} (hi : i < l.length) (hW : Below W.heap.size W W') : ∃ b o,a = some ⟨b,o,none⟩ ∧ b < W.heap.size ∧
  W'.cell? ⟨b,o + i * 6,none⟩ = some (.int .i64 (mAt l i).f) ∧ W'.cell? ⟨b,o + i * 6 + 1,none⟩ = some (.int .i64 (mAt l i).t) ∧ W'.cell? ⟨b,o + i * 6 + 2,none⟩ = some (.int .i64 (mAt l i).k) ∧
  W'.cell? ⟨b,o + i * 6 + 3,none⟩ = some (.int .i64 (mAt l i).s) ∧ W'.cell? ⟨b,o + i * 6 + 4,none⟩ = some (.int .i64 (mAt l i).w) ∧ W'.cell? ⟨b,o + i * 6 + 5,none⟩ = some (.int .i64 (mAt l i).q) := by
 obtain ⟨b,o,ha,hb,hc⟩ := ms_at h hi
 exact ⟨b,o,ha,hb,(hW.cell hb).trans (hc 0 _ rfl),(hW.cell hb).trans (hc 1 _ rfl),(hW.cell hb).trans (hc 2 _ rfl),(hW.cell hb).trans (hc 3 _ rfl),(hW.cell hb).trans (hc 4 _ rfl),(hW.cell hb).trans (hc 5 _ rfl)⟩

theorem behindSign_any (b : Bod) (i : Nat) (w : World) (hA : BodAt w b) (hi : i < b.l.length) : Calls Tryz.prog 229 #[.agg (bodC b),.int .i64 i] w fun e w' => e = .returned (.bool (bsB b.t b.l i)) ∧ Below w.heap.size w w' := by
 have hB0 := (Below.refl w.heap.size w).alloc (Nat.le_refl _) (.cells (bodC b) 225)
 have hsg : Hid (∀ j W,j < b.l.length → Below w.heap.size w W → Calls Tryz.prog 269 #[.agg (bodC b),.int .i64 j] W fun e w' => e = .returned (.bool (sgB b.t (mAt b.l j))) ∧ Below w.heap.size w w' ∧ Below W.heap.size W w') := fun j W hj hW => by
  refine (isSign_any b j W (hA.below hW (Nat.le_refl _)) hj).mono ?_
  rintro e w' ⟨rfl,hb⟩
  exact ⟨rfl,hW.trans (hb.mono hW.size),hb⟩
 have hbox : Hid (∀ W,Below (w.alloc (.cells (bodC b) 225)).heap.size (w.alloc (.cells (bodC b) 225)) W → W.cell? ⟨w.heap.size,0,none⟩ = some (.string b.t) ∧ W.cell? ⟨w.heap.size,1,none⟩ = some b.mv ∧ W.cell? ⟨w.heap.size,2,none⟩ = some b.pv) := fun W hW => by
  have h1 : W.heap[w.heap.size]? = some (.cells (bodC b) 225 (0,0)) := (hW.block _ (by simp)).trans (heap_new w _)
  exact ⟨by rw [Lib.cell_of_heap h1]; rfl,by rw [Lib.cell_of_heap h1]; rfl,by rw [Lib.cell_of_heap h1]; rfl⟩
 obtain ⟨a,cap,hv,-⟩ := hA.ms.ex
 have hms := hA.ms
 rw [hv] at hms
 have hfew := hA.few
 have hi' : (i : Int) < b.l.length := by omega
 have hi4 : (i : Int) ≤ 4096 := by omega
 have hal : Hid (2 ≤ i → ∀ W,Below w.heap.size w W → ∃ g o,a = some ⟨g,o,none⟩ ∧ ∃ f t k s wd q,(W.cell? ⟨g,o + (i - 2) * 6,none⟩ = some (.int .i64 f) ∧ W.cell? ⟨g,o + (i - 2) * 6 + 1,none⟩ = some (.int .i64 t) ∧ W.cell? ⟨g,o + (i - 2) * 6 + 2,none⟩ = some (.int .i64 k) ∧ W.cell? ⟨g,o + (i - 2) * 6 + 3,none⟩ = some (.int .i64 s) ∧ W.cell? ⟨g,o + (i - 2) * 6 + 4,none⟩ = some (.int .i64 wd) ∧ W.cell? ⟨g,o + (i - 2) * 6 + 5,none⟩ = some (.int .i64 q)) ∧
   Calls Tryz.prog 193 #[.agg #[.int .i64 f,.int .i64 t,.int .i64 k,.int .i64 s,.int .i64 wd,.int .i64 q]] W fun e w' => (∃ x,e = .returned (.tuple #[.agg (itC x),.bool (alB (mAt b.l (i - 2)))])) ∧ Below w.heap.size w w') := fun h2 W hW => by
  obtain ⟨g,o,ha,_,hc⟩ := ms_cells hms (i := i - 2) (by omega) hW
  refine ⟨g,o,ha,_,_,_,_,_,_,hc,(alone_any (mAt b.l (i - 2)) (mOk_w (hA.fitAt (by omega)).ok) W).mono ?_⟩
  rintro e w' ⟨rfl,hb⟩
  exact ⟨⟨_,rfl⟩,hW.trans (hb.mono hW.size)⟩
 obtain ⟨t,mv,pv,l,pd⟩ := b
 simp only at hv
 subst hv
 unfold bodC at *
 simp only at *
 unfold bsB
 clear hA hms
 by_cases h2 : 2 ≤ i
 ·rw [decide_eq_true h2,Bool.true_and]
  have h2' : ¬ (i : Int) < 2 := by omega
  have h2'' : (2 : Int) ≤ (i : Int) := by omega
  have hj1 : (i : Int) - 1 = ((i - 1 : Nat) : Int) := by omega
  have hj2 : (i : Int) - 2 < l.length := by omega
  have hs1 : Hid (∀ W,Below w.heap.size w W → Calls Tryz.prog 269 #[.agg #[.string t,.slice a l.length cap,pv],.int .i64 ((i : Int) - 1)] W fun e w' => e = .returned (.bool (sgB t (mAt l (i - 1)))) ∧ Below w.heap.size w w' ∧ Below W.heap.size W w') := fun W hW => by
   rw [hj1]
   exact hsg.out (i - 1) W (by omega) hW
  have hs0 : Hid (∀ W,Below w.heap.size w W → Calls Tryz.prog 269 #[.agg #[.string t,.slice a l.length cap,pv],.int .i64 (i : Int)] W fun e w' => e = .returned (.bool (sgB t (mAt l i))) ∧ Below w.heap.size w w' ∧ Below W.heap.size W w') := fun W hW => hsg.out i W hi hW
  have hal2 := hal.out h2
  have hal3 : Hid (∀ W,Below w.heap.size w W → ∃ g o,a = some ⟨g,o,none⟩ ∧ ∃ f t k s wd q,(W.cell? ⟨g,o + (i - 2) * 6,none⟩ = some (.int .i64 f) ∧ W.cell? ⟨g,o + (i - 2) * 6 + 1,none⟩ = some (.int .i64 t) ∧ W.cell? ⟨g,o + (i - 2) * 6 + 2,none⟩ = some (.int .i64 k) ∧ W.cell? ⟨g,o + (i - 2) * 6 + 3,none⟩ = some (.int .i64 s) ∧ W.cell? ⟨g,o + (i - 2) * 6 + 4,none⟩ = some (.int .i64 wd) ∧ W.cell? ⟨g,o + (i - 2) * 6 + 5,none⟩ = some (.int .i64 q)) ∧
   Calls Tryz.prog 193 #[.agg #[.int .i64 f,.int .i64 t,.int .i64 k,.int .i64 s,.int .i64 wd,.int .i64 q]] W fun e w' => (∃ x,e = .returned (.tuple #[.agg (itC x),.bool (alB (mAt l (i - 2)))])) ∧ Below w.heap.size w w') := hal2
  clear hal hal2 hsg hj1
  generalize sgB t (mAt l (i - 1)) = b1 at *
  generalize sgB t (mAt l i) = b0 at *
  generalize alB (mAt l (i - 2)) = b2 at *
  have hW0 : Below (w.alloc (.cells #[.string t,.slice a l.length cap,pv] 225)).heap.size (w.alloc (.cells #[.string t,.slice a l.length cap,pv] 225)) (w.alloc (.cells #[.string t,.slice a l.length cap,pv] 225)) := Below.refl _ _
  have hS : ∀ w',Below (w.alloc (.cells #[.string t,.slice a l.length cap,pv] 225)).heap.size (w.alloc (.cells #[.string t,.slice a l.length cap,pv] 225)) w' → ∀ w'',Below w'.heap.size w' w'' → Below (w.alloc (.cells #[.string t,.slice a l.length cap,pv] 225)).heap.size (w.alloc (.cells #[.string t,.slice a l.length cap,pv] 225)) w'' := fun w' h w'' h' => h.trans (h'.mono h.size)
  have hSh : Hid (∀ w',Below (w.alloc (.cells #[.string t,.slice a l.length cap,pv] 225)).heap.size (w.alloc (.cells #[.string t,.slice a l.length cap,pv] 225)) w' → ∀ w'',Below w'.heap.size w' w'' → Below (w.alloc (.cells #[.string t,.slice a l.length cap,pv] 225)).heap.size (w.alloc (.cells #[.string t,.slice a l.length cap,pv] 225)) w'') := hS
  clear hS
  cases b1 with
  | false =>
   clear hal3 hs0
   go_enter Tryz.func229,Tryz.ntmps229
   go_wp2_with (go_at_call 269; refine (hs1.out _ hB0).mono ?_; rintro e w1 ⟨rfl,hb1,hb1'⟩)
   go_ret
   exact ⟨rfl,hb1⟩
  | true =>
   cases b0 with
   | true =>
    clear hal3
    go_enter Tryz.func229,Tryz.ntmps229
    go_wp2_with (go_at_call 269; first | (with_reducible refine (hs1.out _ hB0).mono ?_; rintro e w1 ⟨rfl,hb1,hb1'⟩; obtain ⟨d0,d1,d2⟩ := hbox.out w1 (hSh.out _ hW0 _ hb1')) | (with_reducible refine (hs0.out _ hb1).mono ?_; rintro e w2 ⟨rfl,hb2,hb2'⟩))
    go_ret
    exact ⟨rfl,hb2⟩
   | false =>
    go_enter Tryz.func229,Tryz.ntmps229
    go_wp2_with (first | (go_at_call 269; first | (with_reducible refine (hs1.out _ hB0).mono ?_; rintro e w1 ⟨rfl,hb1,hb1'⟩; obtain ⟨d0,d1,d2⟩ := hbox.out w1 (hSh.out _ hW0 _ hb1')) | (with_reducible refine (hs0.out _ hb1).mono ?_; rintro e w2 ⟨rfl,hb2,hb2'⟩; obtain ⟨e0,e1,e2⟩ := hbox.out w2 (hSh.out _ (hSh.out _ hW0 _ hb1') _ hb2'); obtain ⟨g,o,rfl,f,tt,k,s,wd,q,⟨c0,c1,c2,c3,c4,c5⟩,hcal⟩ := hal3.out _ hb2)) | (go_at_call 193; refine hcal.mono ?_; rintro e w3 ⟨⟨x,rfl⟩,hb3⟩; obtain ⟨xk,xf,xt,xw,xs,xh,xc,xy⟩ := x; unfold itC))
    go_ret
    exact ⟨by first | rfl | simp,hb3.alloc hb3.size _⟩
 ·rw [decide_eq_false h2]
  have h2' : (i : Int) < 2 := by omega
  clear hal hsg
  go_enter Tryz.func229,Tryz.ntmps229
  go_wp2_with fail
  go_ret
  exact ⟨rfl,hB0⟩
end Go.Proofs.YtaphggjakaghjaaGreatDoor

namespace Go.Proofs.YtaphggjakaghjaaGreatDoor
open Go.RowKit Go.Shelf
set_option maxRecDepth 100000
set_option maxHeartbeats 4000000

def pdAt (l : List Bool) (i : Nat) : Bool := l.getD i false
def cuB (t : ByteArray) (l : List Ms) (pd : List Bool) (i : Nat) : Bool := pdAt pd i || bsB t l i
def cutI (t : ByteArray) (l : List Ms) (pd : List Bool) (i : Nat) : It :=
 if pdAt pd i = true then ⟨3,(mAt l i).f,(mAt l i).f,hyW (mAt l i).s,0,0,100,true⟩ else if bsB t l i = true then ⟨3,(mAt l i).f,(mAt l i).f,0,0,0,50,false⟩ else it0
theorem bool_at {W W' : World} {v : Value} {l : List Bool} (h : BoolsAt W v l) {i : Nat} (hi : i < l.length) (hW : Below W.heap.size W W') : ∃ b o c,v = .slice (some ⟨b,o,none⟩) l.length c ∧ W'.cell? ⟨b,o + i,none⟩ = some (.bool (pdAt l i)) := by
 obtain ⟨a,cap,h1,h2⟩ := h.ex
 rcases h2 with h2 | ⟨b,o,rfl,hb,hc⟩
 ·subst h2; simp at hi
 ·refine ⟨b,o,cap,h1,?_⟩
  have := hc i hi 0 (.bool l[i]) rfl
  rw [(hW.cell hb)]
  unfold pdAt
  rw [List.getD_eq_getElem?_getD,List.getElem?_eq_getElem hi]
  simpa using this

theorem cut_any (b : Bod) (i : Nat) (w : World) (hA : BodAt w b) (hi : i < b.l.length) : Calls Tryz.prog 194 #[.agg (bodC b),.int .i64 i] w fun e w' => e = .returned (.tuple #[.agg (itC (cutI b.t b.l b.pd i)),.bool (cuB b.t b.l b.pd i)]) ∧ Below w.heap.size w w' := by
 have hbs : Hid (∀ W,Below w.heap.size w W → Calls Tryz.prog 229 #[.agg (bodC b),.int .i64 i] W fun e w' => e = .returned (.bool (bsB b.t b.l i)) ∧ Below w.heap.size w w' ∧ Below W.heap.size W w') := fun W hW => by
  refine (behindSign_any b i W (hA.below hW (Nat.le_refl _)) hi).mono ?_
  rintro e w' ⟨rfl,hb⟩
  exact ⟨rfl,hW.trans (hb.mono hW.size),hb⟩
 obtain ⟨a,cap,hv,-⟩ := hA.ms.ex
 have hms := hA.ms
 rw [hv] at hms
 have hi' : (i : Int) < b.l.length := by omega
 obtain ⟨g,o,ha,hg,hcs⟩ := ms_at hms hi
 obtain ⟨pg,po,pc,hpv,hpc⟩ := bool_at hA.pv (i := i) (by rw [hA.len]; exact hi) (Below.refl _ _)
 rw [hA.len] at hpv
 have hpg := hpc
 obtain ⟨w2,hw2⟩ : ∃ w2,(w.alloc (.cells (bodC b) 225)).alloc (.cells (itC it0) 125) = w2 := ⟨_,rfl⟩
 obtain ⟨w3,hw3⟩ : ∃ w3,w2.alloc (.cells (msC (mAt b.l i)) 147) = w3 := ⟨_,rfl⟩
 have hs2 : w2.heap.size = w.heap.size + 2 := by rw [← hw2]; simp
 have hs3 : w3.heap.size = w.heap.size + 3 := by rw [← hw3]; simp [hs2]
 have hB2 : Below w.heap.size w w2 := by rw [← hw2]; exact two_below w _ _
 have hB3 : Below w.heap.size w w3 := by rw [← hw3]; exact hB2.alloc hB2.size _
 have hM3 : MX (w.heap.size + 2) (mAt b.l i) w3 := ⟨by rw [← hw3,← hs2]; exact heap_new w2 _⟩
 have hI2 : IX w2 (w.heap.size + 1) it0 := ⟨by rw [← hw2]; exact two_new w _ it0⟩
 have hI3 : IX w3 (w.heap.size + 1) it0 := ⟨by rw [← hw3]; exact (Below.heap_alloc _ _ _ (by omega)).trans hI2.row⟩
 have hbx : w3.heap[w.heap.size]? = some (.cells (bodC b) 225 (0,0)) := by
  rw [← hw3,← hw2]
  exact (Below.heap_alloc _ _ _ (by simp; omega)).trans ((Below.heap_alloc _ _ _ (by simp)).trans (heap_new w _))
 have hE : Hid (∀ (x : It) (r : Bool),cutI b.t b.l b.pd i = x → cuB b.t b.l b.pd i = r → ∀ (W2 : World) (tm : Array Value),tm.getD 4 undef = .pointer (some ⟨w.heap.size + 1,0,none⟩) → tm.getD 5 undef = .bool r → IX W2 (w.heap.size + 1) x → Below w.heap.size w W2 → bodyPost Tryz.prog Tryz.f194 (fun e w' => e = .returned (.tuple #[.agg (itC (cutI b.t b.l b.pd i)),.bool (cuB b.t b.l b.pd i)]) ∧ Below w.heap.size w w') .ret { tmps := tm,defers := [] } W2) := fun x r hx hr W2 tm h2 h3 hI hb => by
  refine bodyPost_ret (results_cell_row2 rfl _ _ (w.heap.size + 1) 125 (itC x) (0,0) _ h2 hI.row Tryz.underlying125 rfl (info51 _)) rfl ⟨?_,hb⟩
  rw [h3,hx,hr]
 have hy1 : Hid (pdAt b.pd i = true → cutI b.t b.l b.pd i = ⟨3,(mAt b.l i).f,(mAt b.l i).f,hyW (mAt b.l i).s,0,0,100,true⟩ ∧ cuB b.t b.l b.pd i = true) := fun h => ⟨by unfold cutI; rw [if_pos h],by unfold cuB; rw [h]; rfl⟩
 have hy2 : Hid (pdAt b.pd i = false → bsB b.t b.l i = true → cutI b.t b.l b.pd i = ⟨3,(mAt b.l i).f,(mAt b.l i).f,0,0,0,50,false⟩ ∧ cuB b.t b.l b.pd i = true) := fun h h' => ⟨by unfold cutI; rw [if_neg (by rw [h]; decide),if_pos h'],by unfold cuB; rw [h,h']; rfl⟩
 have hy3 : Hid (pdAt b.pd i = false → bsB b.t b.l i = false → cutI b.t b.l b.pd i = it0 ∧ cuB b.t b.l b.pd i = false) := fun h h' => ⟨by unfold cutI; rw [if_neg (by rw [h]; decide),if_neg (by rw [h']; decide)],by unfold cuB; rw [h,h']; rfl⟩
 have hcp : Hid (∀ W,Below w.heap.size w W → W.cell? ⟨pg,po + i,none⟩ = some (.bool (pdAt b.pd i))) := fun W hW => by
  obtain ⟨pg',po',pc',hpv',h⟩ := bool_at hA.pv (i := i) (by rw [hA.len]; exact hi) hW
  rw [hA.len,hpv] at hpv'
  cases hpv'
  exact h
 have hcm : Hid (∀ W,Below w.heap.size w W → ∀ (j : Nat) (u : Value),(msL (mAt b.l i))[j]? = some u → W.cell? ⟨g,o + i * 6 + j,none⟩ = some u) := fun W hW j u hu => (hW.cell hg).trans (hcs j u hu)
 have hX : IX w3.drew (w.heap.size + 1) it0 := ⟨hI3.row⟩
 generalize cutI b.t b.l b.pd i = CI at *
 generalize cuB b.t b.l b.pd i = CB at *
 generalize bsB b.t b.l i = BS at *
 generalize pdAt b.pd i = PD at *
 have cP := hcp.out _ hB3
 have hm2 := hcm.out _ hB2
 generalize mAt b.l i = m at *
 obtain ⟨t,mv,pv,l,pd⟩ := b
 simp only at hv hpv
 subst hv ha hpv
 obtain ⟨mf,mt,mk,msz,mw,mq⟩ := m
 have c0 := hm2 0 _ rfl
 have c1 := hm2 1 _ rfl
 have c2 := hm2 2 _ rfl
 have c3 := hm2 3 _ rfl
 have c4 := hm2 4 _ rfl
 have c5 := hm2 5 _ rfl
 unfold bodC at *
 simp only [Nat.add_zero] at c0 c1 c2 c3 c4 c5 hi hi' hbs hE hy1 hy2 hy3 hw3 hw2 hcp cP hM3
 unfold msC at hw3
 unfold itC it0 at hw2
 simp only at hw2 hw3
 clear hcp hcm hm2 hcs hms hA hpc hpg hI2 hbx hI3
 have hM4 : Hid (MX (w.heap.size + 2) ⟨mf,mt,mk,msz,mw,mq⟩ w3.drew) := ⟨hM3.row⟩
 have hX4 : Hid (IX w3.drew (w.heap.size + 1) it0) := hX
 have hB4 : Hid (Below w.heap.size w w3) := hB3
 have hI5 : Hid (IX w3 (w.heap.size + 1) it0) := ⟨hX.row⟩
 clear hM3 hX hs2 hs3
 have hw3' : Hid (w2.alloc (.cells #[.int .i64 mf,.int .i64 mt,.int .i64 mk,.int .i64 msz,.int .i64 mw,.int .i64 mq] 147) = w3) := hw3
 have hw2' : Hid ((w.alloc (.cells #[.string t,.slice (some ⟨g,o,none⟩) l.length cap,.slice (some ⟨pg,po,none⟩) l.length pc] 225)).alloc (.cells #[.int .i64 0,.int .i64 0,.int .i64 0,.int .i64 0,.int .i64 0,.int .i64 0,.int .i64 0,.bool false] 125) = w2) := hw2
 subst hw3 hw2
 cases PD with
 | true =>
  obtain ⟨e1,e2⟩ := hy1.out rfl
  have hE' := hE.out _ _ e1 e2
  have hE2 : Hid (∀ (W2 : World) (tm : Array Value),tm.getD 4 undef = .pointer (some ⟨w.heap.size + 1,0,none⟩) → tm.getD 5 undef = .bool true → IX W2 (w.heap.size + 1) ⟨3,mf,mf,hyW msz,0,0,100,true⟩ → Below w.heap.size w W2 → bodyPost Tryz.prog Tryz.f194 (fun e w' => e = .returned (.tuple #[.agg (itC CI),.bool CB]) ∧ Below w.heap.size w w') .ret { tmps := tm,defers := [] } W2) := hE'
  clear hy1 hy2 hy3 hE hE' e1 e2 hbs
  go_enter Tryz.func194,Tryz.ntmps194
  go_wp2_with fail
  refine cu_r3 _ (fun _ _ _ _ _ h => h) _ _ (w.heap.size + 2) (w.heap.size + 1) ⟨mf,mt,mk,msz,mw,mq⟩ it0 _ hM4.out hX4.out (by omega) ?_
  unfold fr73
  have hI6 : Hid (IX _ _ _) := hX4.out.set ⟨3,mf,mf,hyW msz,0,0,100,true⟩
  have hb6 : Hid (Below w.heap.size w _) := below_row (b := w.heap.size + 1) (below_drewM hB4.out 1) hB4.out.size (Nat.le_succ _) (itC ⟨3,mf,mf,hyW msz,0,0,100,true⟩)
  clear hM4 hX4 hI5 hB4
  go_wp2_with fail
  exact hE2.out _ _ rfl rfl hI6.out hb6.out
 | false =>
  have hcl : Hid (∀ W,Below (w.heap.size + 3) ((((w.alloc (.cells #[.string t,.slice (some ⟨g,o,none⟩) l.length cap,.slice (some ⟨pg,po,none⟩) l.length pc] 225)).alloc (.cells #[.int .i64 0,.int .i64 0,.int .i64 0,.int .i64 0,.int .i64 0,.int .i64 0,.int .i64 0,.bool false] 125)).alloc (.cells #[.int .i64 mf,.int .i64 mt,.int .i64 mk,.int .i64 msz,.int .i64 mw,.int .i64 mq] 147))) W → IX W (w.heap.size + 1) it0 ∧ W.cell? ⟨w.heap.size + 2,0,none⟩ = some (.int .i64 mf)) := fun W hW => by
   refine ⟨hI5.out.below hW (by omega),?_⟩
   rw [hW.cell (show w.heap.size + 2 < w.heap.size + 3 by omega)]
   exact hM4.out.c0
  cases BS with
  | true =>
   obtain ⟨e1,e2⟩ := hy2.out rfl rfl
   have hE' := hE.out _ _ e1 e2
   have hE2 : Hid (∀ (W2 : World) (tm : Array Value),tm.getD 4 undef = .pointer (some ⟨w.heap.size + 1,0,none⟩) → tm.getD 5 undef = .bool true → IX W2 (w.heap.size + 1) ⟨3,mf,mf,0,0,0,50,false⟩ → Below w.heap.size w W2 → bodyPost Tryz.prog Tryz.f194 (fun e w' => e = .returned (.tuple #[.agg (itC CI),.bool CB]) ∧ Below w.heap.size w w') .ret { tmps := tm,defers := [] } W2) := hE'
   clear hy1 hy2 hy3 hE hE' e1 e2 hM4 hX4 hI5
   go_enter Tryz.func194,Tryz.ntmps194
   go_wp2_with (first | (go_at_call 229; refine (hbs.out _ hB4.out).mono ?_; rintro e w4 ⟨rfl,hb4,hb4'⟩; obtain ⟨hI7,k0⟩ := hcl.out w4 (by simpa using hb4')) | (refine wpList_store_row rfl 125 _ _ rfl (w.heap.size + 1) (itC ⟨3,mf,mf,0,0,0,50,false⟩) rfl rfl 125 _ hI7.row (info51 _) rfl (itC_one _) ?_))
   exact hE2.out _ _ rfl rfl (hI7.set _) (below_row hb4 hb4.size (Nat.le_succ _) _)
  | false =>
   obtain ⟨e1,e2⟩ := hy3.out rfl rfl
   have hE' := hE.out _ _ e1 e2
   have hE2 : Hid (∀ (W2 : World) (tm : Array Value),tm.getD 4 undef = .pointer (some ⟨w.heap.size + 1,0,none⟩) → tm.getD 5 undef = .bool false → IX W2 (w.heap.size + 1) it0 → Below w.heap.size w W2 → bodyPost Tryz.prog Tryz.f194 (fun e w' => e = .returned (.tuple #[.agg (itC CI),.bool CB]) ∧ Below w.heap.size w w') .ret { tmps := tm,defers := [] } W2) := hE'
   clear hy1 hy2 hy3 hE hE' e1 e2 hM4 hX4 hI5
   go_enter Tryz.func194,Tryz.ntmps194
   go_wp2_with (first | (go_at_call 229; refine (hbs.out _ hB4.out).mono ?_; rintro e w4 ⟨rfl,hb4,hb4'⟩; obtain ⟨hI7,k0⟩ := hcl.out w4 (by simpa using hb4')) | (refine wpList_store_row rfl 125 _ _ rfl (w.heap.size + 1) (itC it0) rfl rfl 125 _ hI7.row (info51 _) rfl (itC_one _) ?_))
   exact hE2.out _ _ rfl rfl (hI7.set _) (below_row hb4 hb4.size (Nat.le_succ _) _)
end Go.Proofs.YtaphggjakaghjaaGreatDoor

namespace Go.Proofs.YtaphggjakaghjaaGreatDoor
open Go.RowKit Go.Shelf
set_option maxRecDepth 100000
set_option maxHeartbeats 4000000
attribute [local go_sem] Oper.semAt_some wide_fn wide_depth

def ops70_1 (ps : String) : Array Oper := #[⟨some 6,.load 3 (.tmp 1),3,ps,#[],none⟩,⟨some 7,.move (.tmp 0),3,ps,#[],none⟩,⟨some 8,.binOp .eql 3 (.tmp 6) (.tmp 7) 3,4,ps,#[⟨0,.data⟩,⟨1,.data⟩],none⟩,⟨some 9,.move (.tmp 8),4,ps,#[⟨2,.data⟩],none⟩,⟨some 10,.load 230 (.tmp 2),230,ps,#[⟨3,.guard⟩],some (3,false)⟩,⟨some 11,.fieldAddr 225 (.tmp 3) 1,0,ps,#[⟨3,.guard⟩],some (3,false)⟩,⟨some 12,.load 143 (.tmp 11),143,ps,#[⟨5,.data⟩,⟨3,.guard⟩],some (3,false)⟩,⟨some 13,.load 3 (.tmp 1),3,ps,#[⟨3,.guard⟩],some (3,false)⟩,⟨some 14,.move (.tmp 0),3,ps,#[⟨3,.guard⟩],some (3,false)⟩,⟨some 15,.slice 143 (.tmp 12) (some (.tmp 13)) (some (.tmp 14)) none,143,ps,#[⟨6,.data⟩,⟨7,.data⟩,⟨8,.data⟩,⟨3,.guard⟩],some (3,false)⟩,⟨some 16,.call ⟨.value (.func 192),#[.tmp 15],#[143]⟩,125,ps,#[⟨9,.data⟩,⟨3,.chain⟩,⟨3,.guard⟩],some (3,false)⟩,⟨some 17,.call ⟨.value (.tmp 10),#[.tmp 16],#[125]⟩,4,ps,#[⟨4,.data⟩,⟨10,.data⟩,⟨10,.chain⟩,⟨3,.guard⟩],some (3,false)⟩,⟨some 18,.pick (.tmp 9) (.const (.bool true)) (.tmp 17),4,ps,#[⟨3,.data⟩,⟨11,.data⟩],none⟩,⟨some 5,.assign (.tmp 18),4,ps,#[⟨12,.data⟩,⟨11,.chain⟩,⟨0,.phase⟩,⟨1,.phase⟩,⟨2,.phase⟩,⟨3,.phase⟩,⟨4,.phase⟩,⟨5,.phase⟩,⟨6,.phase⟩,⟨7,.phase⟩,⟨8,.phase⟩,⟨9,.phase⟩,⟨10,.phase⟩,⟨11,.phase⟩,⟨12,.phase⟩],none⟩]

theorem shut_r1 (Q : Exit → Act → World → Prop) (hQ : ∀ c x (n : Nat) v w,Q (.panic c) (x.put (some n) v) w → Q (.panic c) x w) (id : Nat) (ps : String) {v4 v5 v6 v7 v8 v9 v10 v11 v12 v13 v14 v15 v16 v17 v18 : Value} (l F Y Bo g o n cap ff tt : Nat) (X : It) (W : World)
  (hne : ¬ (ff : Int) = (tt : Int)) (cf : W.drew.cell? ⟨F,0,none⟩ = some (.int .i64 (ff : Nat))) (cy : W.drew.cell? ⟨Y,0,none⟩ = some (.func (.yield l) #[] #[])) (hyl : Y < W.drew.heap.size) (cb : W.drew.cell? ⟨Bo,1,none⟩ = some (.slice (some ⟨g,o,none⟩) n cap))
  (hsl : ∀ w : World,(Instr.slice 143 (.slice (some ⟨g,o,none⟩) n cap) (some (.int .i64 (ff : Int))) (some (.int .i64 (tt : Int))) none).run Tryz.prog w = .ok (.slice (some ⟨g,o + ff * 6,none⟩) (tt - ff) (cap - ff)) w)
  (hbox : Calls Tryz.prog 192 #[.slice (some ⟨g,o + ff * 6,none⟩) (tt - ff) (cap - ff)] W.drew fun e w' => e = .returned (.agg (itC X)) ∧ Below W.drew.heap.size W.drew w')
  (R : Ending → World → Prop) (hY : Hid (∀ W1,Below W.drew.heap.size W.drew W1 → YieldAt Fence.wide 0 Tryz.prog l #[.agg (itC X)] W1 R))
  (hR : Hid (∀ e W',R e W' → ∃ c : Bool,e = .returned (.bool c) ∧ Q .normal { tmps := #[.int .i64 (tt : Nat),.pointer (some ⟨F,0,none⟩),.pointer (some ⟨Y,0,none⟩),.pointer (some ⟨Bo,0,none⟩),v4,.bool c,.int .i64 (ff : Nat),.int .i64 (tt : Nat),.bool false,.bool false,.func (.yield l) #[] #[],.pointer (some ⟨Bo,1,none⟩),.slice (some ⟨g,o,none⟩) n cap,.int .i64 (ff : Nat),.int .i64 (tt : Nat),.slice (some ⟨g,o + ff * 6,none⟩) (tt - ff) (cap - ff),.agg (itC X),.bool c,.bool c],defers := [] } W')) :
  (Code.region id (ops70_1 ps) true).wpIn Fence.wide 0 Tryz.prog Q { tmps := #[.int .i64 (tt : Nat),.pointer (some ⟨F,0,none⟩),.pointer (some ⟨Y,0,none⟩),.pointer (some ⟨Bo,0,none⟩),v4,v5,v6,v7,v8,v9,v10,v11,v12,v13,v14,v15,v16,v17,v18],defers := [] } W := by
 refine wpIn_region_any (by kernel_rfl) ?_
 change wpAnyIn _ _ _ _ _ _ 14 _ _ W.drew
 have hne' : ((ff : Int) == (tt : Int)) = false := by simpa using hne
 unfold ops70_1
 refine wpAnyIn_take (i := 1) (v := .int .i64 (tt : Nat)) rfl rfl (by kernel_rfl) (by kernel_rfl) (by kernel_rfl) (fun c x w => hQ c x _ _ w) ⟨Or.inl ⟨by rfl,?y1⟩,fun _ => rfl⟩ ?_
 case y1 => (intro w; go_simp)
 go_simp
 refine wpAnyIn_ready (rs := [0]) (by kernel_rfl) (by simp) ?_
 refine AllReadyIn.cons rfl (fun K hK => ?_) AllReadyIn.nil
 go_simp
 refine hK _ _ ?_
 clear hK K
 go_simp
 refine wpAnyIn_take (i := 2) (v := .bool false) rfl rfl (by kernel_rfl) (by kernel_rfl) (by kernel_rfl) (fun c x w => hQ c x _ _ w) ⟨Or.inl ⟨by rfl,?y2⟩,fun _ => rfl⟩ ?_
 case y2 => (intro w; go_simp; first | done | (simp; omega))
 go_simp
 refine wpAnyIn_take (i := 3) (v := .bool false) rfl rfl (by kernel_rfl) (by kernel_rfl) (by kernel_rfl) (fun c x w => hQ c x _ _ w) ⟨Or.inl ⟨by rfl,?y3⟩,fun _ => rfl⟩ ?_
 case y3 => (intro w; go_simp)
 go_simp
 refine wpAnyIn_take (i := 5) (v := .pointer (some ⟨Bo,1,none⟩)) rfl rfl (by kernel_rfl) (by kernel_rfl) (by kernel_rfl) (fun c x w => hQ c x _ _ w) ⟨Or.inl ⟨by rfl,?y5⟩,fun _ => rfl⟩ ?_
 case y5 => (intro w; go_simp)
 go_simp
 refine wpAnyIn_take (i := 8) (v := .int .i64 (tt : Nat)) rfl rfl (by kernel_rfl) (by kernel_rfl) (by kernel_rfl) (fun c x w => hQ c x _ _ w) ⟨Or.inl ⟨by rfl,?y8⟩,fun _ => rfl⟩ ?_
 case y8 => (intro w; go_simp)
 go_simp
 refine wpAnyIn_ready (rs := [4,6,7]) (by kernel_rfl) (by simp) ?_
 refine AllReadyIn.cons rfl (fun K hK => ?_) (AllReadyIn.cons rfl (fun K hK => ?_) (AllReadyIn.cons rfl (fun K hK => ?_) AllReadyIn.nil))
 ·go_simp
  refine hK _ _ ?_
  clear hK K
  go_simp
  refine wpAnyIn_ready (rs := [6,7]) (by kernel_rfl) (by simp) ?_
  refine AllReadyIn.cons rfl (fun K hK => ?_) (AllReadyIn.cons rfl (fun K hK => ?_) AllReadyIn.nil)
  ·go_simp
   refine hK _ _ ?_
   clear hK K
   go_simp
   refine wpAnyIn_ready (rs := [7]) (by kernel_rfl) (by simp) ?_
   refine AllReadyIn.cons rfl (fun K hK => ?_) AllReadyIn.nil
   go_simp
   refine hK _ _ ?_
   clear hK K
   go_simp
   refine wpAnyIn_take (i := 9) (v := .slice (some ⟨g,o + ff * 6,none⟩) (tt - ff) (cap - ff)) rfl rfl (by kernel_rfl) (by kernel_rfl) (by kernel_rfl) (fun c x w => hQ c x _ _ w) ⟨Or.inl ⟨by rfl,?y9⟩,fun _ => rfl⟩ ?_
   case y9 => (intro w; go_simp; first | done | exact hsl w | simp [hsl w])
   go_simp
   refine wpAnyIn_ready (rs := [10]) (by kernel_rfl) (by simp) ?_
   refine AllReadyIn.cons rfl (fun K hK => ?_) AllReadyIn.nil
   go_simp
   refine (callsIn_wide.2 hbox).mono ?_
   rintro e W1 ⟨rfl,hb1⟩
   have cy1 := (hb1.cell hyl).trans cy
   obtain ⟨fn,tmps,assign,body,hy,hRd⟩ := hY.out W1 hb1
   refine hK _ _ ?_
   clear hK K
   go_simp
   refine wpAnyIn_ready (rs := [11]) (by kernel_rfl) (by simp) ?_
   refine AllReadyIn.cons rfl (fun K hK => ?_) AllReadyIn.nil
   go_simp
   refine hRd.mono ?_
   intro e W2 hR2
   obtain ⟨c,rfl,hq⟩ := hR.out e W2 hR2
   refine hK _ _ ?_
   clear hK K
   go_simp
   refine wpAnyIn_take (i := 12) (v := .bool c) rfl rfl (by kernel_rfl) (by kernel_rfl) (by kernel_rfl) (fun c x w => hQ c x _ _ w) ⟨Or.inl ⟨by rfl,?y12⟩,fun _ => rfl⟩ ?_
   case y12 => (intro w; go_simp)
   go_simp
   refine wpAnyIn_take (i := 13) (v := .bool c) rfl rfl (by kernel_rfl) (by kernel_rfl) (by kernel_rfl) (fun c x w => hQ c x _ _ w) ⟨Or.inl ⟨by rfl,?y13⟩,fun _ => rfl⟩ ?_
   case y13 => (intro w; go_simp)
   go_simp
   exact wpAnyIn_done (by kernel_rfl) hq _
  ·go_simp
   refine hK _ _ ?_
   clear hK K
   go_simp
   refine wpAnyIn_ready (rs := [6]) (by kernel_rfl) (by simp) ?_
   refine AllReadyIn.cons rfl (fun K hK => ?_) AllReadyIn.nil
   go_simp
   refine hK _ _ ?_
   clear hK K
   go_simp
   refine wpAnyIn_take (i := 9) (v := .slice (some ⟨g,o + ff * 6,none⟩) (tt - ff) (cap - ff)) rfl rfl (by kernel_rfl) (by kernel_rfl) (by kernel_rfl) (fun c x w => hQ c x _ _ w) ⟨Or.inl ⟨by rfl,?y9⟩,fun _ => rfl⟩ ?_
   case y9 => (intro w; go_simp; first | done | exact hsl w | simp [hsl w])
   go_simp
   refine wpAnyIn_ready (rs := [10]) (by kernel_rfl) (by simp) ?_
   refine AllReadyIn.cons rfl (fun K hK => ?_) AllReadyIn.nil
   go_simp
   refine (callsIn_wide.2 hbox).mono ?_
   rintro e W1 ⟨rfl,hb1⟩
   have cy1 := (hb1.cell hyl).trans cy
   obtain ⟨fn,tmps,assign,body,hy,hRd⟩ := hY.out W1 hb1
   refine hK _ _ ?_
   clear hK K
   go_simp
   refine wpAnyIn_ready (rs := [11]) (by kernel_rfl) (by simp) ?_
   refine AllReadyIn.cons rfl (fun K hK => ?_) AllReadyIn.nil
   go_simp
   refine hRd.mono ?_
   intro e W2 hR2
   obtain ⟨c,rfl,hq⟩ := hR.out e W2 hR2
   refine hK _ _ ?_
   clear hK K
   go_simp
   refine wpAnyIn_take (i := 12) (v := .bool c) rfl rfl (by kernel_rfl) (by kernel_rfl) (by kernel_rfl) (fun c x w => hQ c x _ _ w) ⟨Or.inl ⟨by rfl,?y12⟩,fun _ => rfl⟩ ?_
   case y12 => (intro w; go_simp)
   go_simp
   refine wpAnyIn_take (i := 13) (v := .bool c) rfl rfl (by kernel_rfl) (by kernel_rfl) (by kernel_rfl) (fun c x w => hQ c x _ _ w) ⟨Or.inl ⟨by rfl,?y13⟩,fun _ => rfl⟩ ?_
   case y13 => (intro w; go_simp)
   go_simp
   exact wpAnyIn_done (by kernel_rfl) hq _
 ·go_simp
  refine hK _ _ ?_
  clear hK K
  go_simp
  refine wpAnyIn_ready (rs := [4,7]) (by kernel_rfl) (by simp) ?_
  refine AllReadyIn.cons rfl (fun K hK => ?_) (AllReadyIn.cons rfl (fun K hK => ?_) AllReadyIn.nil)
  ·go_simp
   refine hK _ _ ?_
   clear hK K
   go_simp
   refine wpAnyIn_ready (rs := [7]) (by kernel_rfl) (by simp) ?_
   refine AllReadyIn.cons rfl (fun K hK => ?_) AllReadyIn.nil
   go_simp
   refine hK _ _ ?_
   clear hK K
   go_simp
   refine wpAnyIn_take (i := 9) (v := .slice (some ⟨g,o + ff * 6,none⟩) (tt - ff) (cap - ff)) rfl rfl (by kernel_rfl) (by kernel_rfl) (by kernel_rfl) (fun c x w => hQ c x _ _ w) ⟨Or.inl ⟨by rfl,?y9⟩,fun _ => rfl⟩ ?_
   case y9 => (intro w; go_simp; first | done | exact hsl w | simp [hsl w])
   go_simp
   refine wpAnyIn_ready (rs := [10]) (by kernel_rfl) (by simp) ?_
   refine AllReadyIn.cons rfl (fun K hK => ?_) AllReadyIn.nil
   go_simp
   refine (callsIn_wide.2 hbox).mono ?_
   rintro e W1 ⟨rfl,hb1⟩
   have cy1 := (hb1.cell hyl).trans cy
   obtain ⟨fn,tmps,assign,body,hy,hRd⟩ := hY.out W1 hb1
   refine hK _ _ ?_
   clear hK K
   go_simp
   refine wpAnyIn_ready (rs := [11]) (by kernel_rfl) (by simp) ?_
   refine AllReadyIn.cons rfl (fun K hK => ?_) AllReadyIn.nil
   go_simp
   refine hRd.mono ?_
   intro e W2 hR2
   obtain ⟨c,rfl,hq⟩ := hR.out e W2 hR2
   refine hK _ _ ?_
   clear hK K
   go_simp
   refine wpAnyIn_take (i := 12) (v := .bool c) rfl rfl (by kernel_rfl) (by kernel_rfl) (by kernel_rfl) (fun c x w => hQ c x _ _ w) ⟨Or.inl ⟨by rfl,?y12⟩,fun _ => rfl⟩ ?_
   case y12 => (intro w; go_simp)
   go_simp
   refine wpAnyIn_take (i := 13) (v := .bool c) rfl rfl (by kernel_rfl) (by kernel_rfl) (by kernel_rfl) (fun c x w => hQ c x _ _ w) ⟨Or.inl ⟨by rfl,?y13⟩,fun _ => rfl⟩ ?_
   case y13 => (intro w; go_simp)
   go_simp
   exact wpAnyIn_done (by kernel_rfl) hq _
  ·go_simp
   refine hK _ _ ?_
   clear hK K
   go_simp
   refine wpAnyIn_take (i := 9) (v := .slice (some ⟨g,o + ff * 6,none⟩) (tt - ff) (cap - ff)) rfl rfl (by kernel_rfl) (by kernel_rfl) (by kernel_rfl) (fun c x w => hQ c x _ _ w) ⟨Or.inl ⟨by rfl,?y9⟩,fun _ => rfl⟩ ?_
   case y9 => (intro w; go_simp; first | done | exact hsl w | simp [hsl w])
   go_simp
   refine wpAnyIn_ready (rs := [4,10]) (by kernel_rfl) (by simp) ?_
   refine AllReadyIn.cons rfl (fun K hK => ?_) (AllReadyIn.cons rfl (fun K hK => ?_) AllReadyIn.nil)
   ·go_simp
    refine hK _ _ ?_
    clear hK K
    go_simp
    refine wpAnyIn_ready (rs := [10]) (by kernel_rfl) (by simp) ?_
    refine AllReadyIn.cons rfl (fun K hK => ?_) AllReadyIn.nil
    go_simp
    refine (callsIn_wide.2 hbox).mono ?_
    rintro e W1 ⟨rfl,hb1⟩
    have cy1 := (hb1.cell hyl).trans cy
    obtain ⟨fn,tmps,assign,body,hy,hRd⟩ := hY.out W1 hb1
    refine hK _ _ ?_
    clear hK K
    go_simp
    refine wpAnyIn_ready (rs := [11]) (by kernel_rfl) (by simp) ?_
    refine AllReadyIn.cons rfl (fun K hK => ?_) AllReadyIn.nil
    go_simp
    refine hRd.mono ?_
    intro e W2 hR2
    obtain ⟨c,rfl,hq⟩ := hR.out e W2 hR2
    refine hK _ _ ?_
    clear hK K
    go_simp
    refine wpAnyIn_take (i := 12) (v := .bool c) rfl rfl (by kernel_rfl) (by kernel_rfl) (by kernel_rfl) (fun c x w => hQ c x _ _ w) ⟨Or.inl ⟨by rfl,?y12⟩,fun _ => rfl⟩ ?_
    case y12 => (intro w; go_simp)
    go_simp
    refine wpAnyIn_take (i := 13) (v := .bool c) rfl rfl (by kernel_rfl) (by kernel_rfl) (by kernel_rfl) (fun c x w => hQ c x _ _ w) ⟨Or.inl ⟨by rfl,?y13⟩,fun _ => rfl⟩ ?_
    case y13 => (intro w; go_simp)
    go_simp
    exact wpAnyIn_done (by kernel_rfl) hq _
   ·go_simp
    refine (callsIn_wide.2 hbox).mono ?_
    rintro e W1 ⟨rfl,hb1⟩
    have cy1 := (hb1.cell hyl).trans cy
    obtain ⟨fn,tmps,assign,body,hy,hRd⟩ := hY.out W1 hb1
    refine hK _ _ ?_
    clear hK K
    go_simp
    refine wpAnyIn_ready (rs := [4]) (by kernel_rfl) (by simp) ?_
    refine AllReadyIn.cons rfl (fun K hK => ?_) AllReadyIn.nil
    go_simp
    refine hK _ _ ?_
    clear hK K
    go_simp
    refine wpAnyIn_ready (rs := [11]) (by kernel_rfl) (by simp) ?_
    refine AllReadyIn.cons rfl (fun K hK => ?_) AllReadyIn.nil
    go_simp
    refine hRd.mono ?_
    intro e W2 hR2
    obtain ⟨c,rfl,hq⟩ := hR.out e W2 hR2
    refine hK _ _ ?_
    clear hK K
    go_simp
    refine wpAnyIn_take (i := 12) (v := .bool c) rfl rfl (by kernel_rfl) (by kernel_rfl) (by kernel_rfl) (fun c x w => hQ c x _ _ w) ⟨Or.inl ⟨by rfl,?y12⟩,fun _ => rfl⟩ ?_
    case y12 => (intro w; go_simp)
    go_simp
    refine wpAnyIn_take (i := 13) (v := .bool c) rfl rfl (by kernel_rfl) (by kernel_rfl) (by kernel_rfl) (fun c x w => hQ c x _ _ w) ⟨Or.inl ⟨by rfl,?y13⟩,fun _ => rfl⟩ ?_
    case y13 => (intro w; go_simp)
    go_simp
    exact wpAnyIn_done (by kernel_rfl) hq _
 ·go_simp
  refine hK _ _ ?_
  clear hK K
  go_simp
  refine wpAnyIn_ready (rs := [4,6]) (by kernel_rfl) (by simp) ?_
  refine AllReadyIn.cons rfl (fun K hK => ?_) (AllReadyIn.cons rfl (fun K hK => ?_) AllReadyIn.nil)
  ·go_simp
   refine hK _ _ ?_
   clear hK K
   go_simp
   refine wpAnyIn_ready (rs := [6]) (by kernel_rfl) (by simp) ?_
   refine AllReadyIn.cons rfl (fun K hK => ?_) AllReadyIn.nil
   go_simp
   refine hK _ _ ?_
   clear hK K
   go_simp
   refine wpAnyIn_take (i := 9) (v := .slice (some ⟨g,o + ff * 6,none⟩) (tt - ff) (cap - ff)) rfl rfl (by kernel_rfl) (by kernel_rfl) (by kernel_rfl) (fun c x w => hQ c x _ _ w) ⟨Or.inl ⟨by rfl,?y9⟩,fun _ => rfl⟩ ?_
   case y9 => (intro w; go_simp; first | done | exact hsl w | simp [hsl w])
   go_simp
   refine wpAnyIn_ready (rs := [10]) (by kernel_rfl) (by simp) ?_
   refine AllReadyIn.cons rfl (fun K hK => ?_) AllReadyIn.nil
   go_simp
   refine (callsIn_wide.2 hbox).mono ?_
   rintro e W1 ⟨rfl,hb1⟩
   have cy1 := (hb1.cell hyl).trans cy
   obtain ⟨fn,tmps,assign,body,hy,hRd⟩ := hY.out W1 hb1
   refine hK _ _ ?_
   clear hK K
   go_simp
   refine wpAnyIn_ready (rs := [11]) (by kernel_rfl) (by simp) ?_
   refine AllReadyIn.cons rfl (fun K hK => ?_) AllReadyIn.nil
   go_simp
   refine hRd.mono ?_
   intro e W2 hR2
   obtain ⟨c,rfl,hq⟩ := hR.out e W2 hR2
   refine hK _ _ ?_
   clear hK K
   go_simp
   refine wpAnyIn_take (i := 12) (v := .bool c) rfl rfl (by kernel_rfl) (by kernel_rfl) (by kernel_rfl) (fun c x w => hQ c x _ _ w) ⟨Or.inl ⟨by rfl,?y12⟩,fun _ => rfl⟩ ?_
   case y12 => (intro w; go_simp)
   go_simp
   refine wpAnyIn_take (i := 13) (v := .bool c) rfl rfl (by kernel_rfl) (by kernel_rfl) (by kernel_rfl) (fun c x w => hQ c x _ _ w) ⟨Or.inl ⟨by rfl,?y13⟩,fun _ => rfl⟩ ?_
   case y13 => (intro w; go_simp)
   go_simp
   exact wpAnyIn_done (by kernel_rfl) hq _
  ·go_simp
   refine hK _ _ ?_
   clear hK K
   go_simp
   refine wpAnyIn_take (i := 9) (v := .slice (some ⟨g,o + ff * 6,none⟩) (tt - ff) (cap - ff)) rfl rfl (by kernel_rfl) (by kernel_rfl) (by kernel_rfl) (fun c x w => hQ c x _ _ w) ⟨Or.inl ⟨by rfl,?y9⟩,fun _ => rfl⟩ ?_
   case y9 => (intro w; go_simp; first | done | exact hsl w | simp [hsl w])
   go_simp
   refine wpAnyIn_ready (rs := [4,10]) (by kernel_rfl) (by simp) ?_
   refine AllReadyIn.cons rfl (fun K hK => ?_) (AllReadyIn.cons rfl (fun K hK => ?_) AllReadyIn.nil)
   ·go_simp
    refine hK _ _ ?_
    clear hK K
    go_simp
    refine wpAnyIn_ready (rs := [10]) (by kernel_rfl) (by simp) ?_
    refine AllReadyIn.cons rfl (fun K hK => ?_) AllReadyIn.nil
    go_simp
    refine (callsIn_wide.2 hbox).mono ?_
    rintro e W1 ⟨rfl,hb1⟩
    have cy1 := (hb1.cell hyl).trans cy
    obtain ⟨fn,tmps,assign,body,hy,hRd⟩ := hY.out W1 hb1
    refine hK _ _ ?_
    clear hK K
    go_simp
    refine wpAnyIn_ready (rs := [11]) (by kernel_rfl) (by simp) ?_
    refine AllReadyIn.cons rfl (fun K hK => ?_) AllReadyIn.nil
    go_simp
    refine hRd.mono ?_
    intro e W2 hR2
    obtain ⟨c,rfl,hq⟩ := hR.out e W2 hR2
    refine hK _ _ ?_
    clear hK K
    go_simp
    refine wpAnyIn_take (i := 12) (v := .bool c) rfl rfl (by kernel_rfl) (by kernel_rfl) (by kernel_rfl) (fun c x w => hQ c x _ _ w) ⟨Or.inl ⟨by rfl,?y12⟩,fun _ => rfl⟩ ?_
    case y12 => (intro w; go_simp)
    go_simp
    refine wpAnyIn_take (i := 13) (v := .bool c) rfl rfl (by kernel_rfl) (by kernel_rfl) (by kernel_rfl) (fun c x w => hQ c x _ _ w) ⟨Or.inl ⟨by rfl,?y13⟩,fun _ => rfl⟩ ?_
    case y13 => (intro w; go_simp)
    go_simp
    exact wpAnyIn_done (by kernel_rfl) hq _
   ·go_simp
    refine (callsIn_wide.2 hbox).mono ?_
    rintro e W1 ⟨rfl,hb1⟩
    have cy1 := (hb1.cell hyl).trans cy
    obtain ⟨fn,tmps,assign,body,hy,hRd⟩ := hY.out W1 hb1
    refine hK _ _ ?_
    clear hK K
    go_simp
    refine wpAnyIn_ready (rs := [4]) (by kernel_rfl) (by simp) ?_
    refine AllReadyIn.cons rfl (fun K hK => ?_) AllReadyIn.nil
    go_simp
    refine hK _ _ ?_
    clear hK K
    go_simp
    refine wpAnyIn_ready (rs := [11]) (by kernel_rfl) (by simp) ?_
    refine AllReadyIn.cons rfl (fun K hK => ?_) AllReadyIn.nil
    go_simp
    refine hRd.mono ?_
    intro e W2 hR2
    obtain ⟨c,rfl,hq⟩ := hR.out e W2 hR2
    refine hK _ _ ?_
    clear hK K
    go_simp
    refine wpAnyIn_take (i := 12) (v := .bool c) rfl rfl (by kernel_rfl) (by kernel_rfl) (by kernel_rfl) (fun c x w => hQ c x _ _ w) ⟨Or.inl ⟨by rfl,?y12⟩,fun _ => rfl⟩ ?_
    case y12 => (intro w; go_simp)
    go_simp
    refine wpAnyIn_take (i := 13) (v := .bool c) rfl rfl (by kernel_rfl) (by kernel_rfl) (by kernel_rfl) (fun c x w => hQ c x _ _ w) ⟨Or.inl ⟨by rfl,?y13⟩,fun _ => rfl⟩ ?_
    case y13 => (intro w; go_simp)
    go_simp
    exact wpAnyIn_done (by kernel_rfl) hq _
end Go.Proofs.YtaphggjakaghjaaGreatDoor
