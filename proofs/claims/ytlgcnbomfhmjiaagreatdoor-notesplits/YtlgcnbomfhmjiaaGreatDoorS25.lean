/-
  What is proved here: what alone, box and isSign of item answer.
  What is proved here: what behindSign and cut of item answer.
  What is proved here: what cut of item answers.
-/
import Derived.Test.YtlgcnbomfhmjiaaGreatDoorS24
namespace Go.Proofs.YtlgcnbomfhmjiaaGreatDoor
open Go.RowKit Go.Shelf
set_option maxRecDepth 100000
set_option maxHeartbeats 2000000

theorem alone_any (m : Ms) (hm : 0 ≤ m.w ∧ m.w ≤ 4095) (w : World) : Calls Tryz.prog 133 #[.agg (msC m)] w fun e w' => e = .returned (.tuple #[.agg (itC (loneI m)),.bool (alB m)]) ∧ Below w.heap.size w w' := by
 have hh := hyphenWidth_any m.s
 have hE : Hid (∀ (x : It) (r : Bool),loneI m = x → alB m = r → ∀ (W2 : World) (tm : Array Value),tm.getD 2 undef = .pointer (some ⟨w.heap.size + 1,0,none⟩) → tm.getD 3 undef = .bool r → IX W2 (w.heap.size + 1) x → Below w.heap.size w W2 → bodyPost Tryz.prog Tryz.f133 (fun e w' => e = .returned (.tuple #[.agg (itC (loneI m)),.bool (alB m)]) ∧ Below w.heap.size w w') .ret { tmps := tm,defers := [] } W2) := fun x r hx hr W2 tm h2 h3 hI hb => by
  refine bodyPost_ret (results_cell_row2 rfl _ _ (w.heap.size + 1) 91 (itC x) (0,0) _ h2 hI.row Tryz.underlying91 rfl (info51 _)) rfl ⟨?_,hb⟩
  rw [h3,hx,hr]
 have h1 : Hid (m.k = 3 → loneI m = ⟨2,m.f,m.t,m.w,m.w / 2,m.w / 3,0,false⟩ ∧ alB m = true) := fun h => ⟨by unfold loneI; rw [if_pos h],decide_eq_true (.inl h)⟩
 have h2 : Hid (m.k = 4 → loneI m = ⟨4,m.f,m.t,0,0,0,0,false⟩ ∧ alB m = true) := fun h => ⟨by unfold loneI; rw [if_neg (by omega),if_pos h],decide_eq_true (.inr (.inl h))⟩
 have h3 : Hid (m.k = 5 → loneI m = ⟨3,m.f,m.t,hyW m.s,0,0,50,true⟩ ∧ alB m = true) := fun h => ⟨by unfold loneI; rw [if_neg (by omega),if_neg (by omega),if_pos h],decide_eq_true (.inr (.inr h))⟩
 have h4 : Hid (m.k ≠ 3 → m.k ≠ 4 → m.k ≠ 5 → loneI m = it0 ∧ alB m = false) := fun h h' h'' => ⟨by unfold loneI; rw [if_neg h,if_neg h',if_neg h''],decide_eq_false (by omega)⟩
 generalize loneI m = X at *
 generalize alB m = R at *
 obtain ⟨f,t,k,s,wd,q⟩ := m
 unfold msC at *
 simp only at *
 have hd2 : wd.tdiv 2 = wd / 2 := Int.tdiv_eq_ediv_of_nonneg hm.1
 have hd3 : wd.tdiv 3 = wd / 3 := Int.tdiv_eq_ediv_of_nonneg hm.1
 have hb2 : 0 ≤ wd / 2 ∧ wd / 2 ≤ 4095 := by omega
 have hb3 : 0 ≤ wd / 3 ∧ wd / 3 ≤ 4095 := by omega
 obtain ⟨hm0,hm1⟩ := hm
 by_cases k3 : k = 3
 ·obtain ⟨e1,e2⟩ := h1.out k3
  subst k3
  have hE' := hE.out _ _ e1 e2
  clear hh h1 h2 h3 h4 hE e1 e2
  go_enter Tryz.func133,Tryz.ntmps133
  go_wp2_with fail
  exact hE' _ _ rfl rfl ⟨two_new w _ ⟨2,f,t,wd,wd / 2,wd / 3,0,false⟩⟩ (two_below w _ _)
 by_cases k4 : k = 4
 ·obtain ⟨e1,e2⟩ := h2.out k4
  subst k4
  have hE' := hE.out _ _ e1 e2
  clear hh h1 h2 h3 h4 hE e1 e2
  go_enter Tryz.func133,Tryz.ntmps133
  go_wp2_with fail
  exact hE' _ _ rfl rfl ⟨two_new w _ ⟨4,f,t,0,0,0,0,false⟩⟩ (two_below w _ _)
 by_cases k5 : k = 5
 ·obtain ⟨e1,e2⟩ := h3.out k5
  subst k5
  have hE' := hE.out _ _ e1 e2
  clear h1 h2 h3 h4 hE e1 e2
  go_enter Tryz.func133,Tryz.ntmps133
  go_wp2_with fail
  refine al_r7 _ (fun _ _ _ _ _ h => h) _ _ w.heap.size (w.heap.size + 1) ⟨f,t,5,s,wd,q⟩ it0 _ ⟨(Below.heap_alloc _ _ _ (by simp)).trans (heap_new w _)⟩ ⟨two_new w _ it0⟩ (by omega) ?_
  unfold fr72
  have hI2 : IX ((World.drew ((w.alloc (.cells #[.int .i64 f,.int .i64 t,.int .i64 5,.int .i64 s,.int .i64 wd,.int .i64 q] 107)).alloc (.cells (itC it0) 91))).setRow (w.heap.size + 1) (itC ⟨3,f,t,hyW s,0,0,50,true⟩)) (w.heap.size + 1) ⟨3,f,t,hyW s,0,0,50,true⟩ := IX.set (W := World.drew _) ⟨two_new w _ it0⟩ _
  have hb2 : Below w.heap.size w ((World.drew ((w.alloc (.cells #[.int .i64 f,.int .i64 t,.int .i64 5,.int .i64 s,.int .i64 wd,.int .i64 q] 107)).alloc (.cells (itC it0) 91))).setRow (w.heap.size + 1) (itC ⟨3,f,t,hyW s,0,0,50,true⟩)) := below_row (W := World.drew _) (below_drewM (two_below w _ _) 1) (by show _ ≤ (World.heap _).size; simp; omega) (by omega) _
  have hI3 : Hid (IX _ _ _) := hI2
  have hb3 : Hid (Below _ _ _) := hb2
  clear hI2 hb2
  go_wp2_with fail
  exact hE' _ _ rfl rfl hI3.out hb3.out
 obtain ⟨e1,e2⟩ := h4.out k3 k4 k5
 have q3 : (k == 3) = false := by simpa using k3
 have q4 : (k == 4) = false := by simpa using k4
 have q5 : (k == 5) = false := by simpa using k5
 have hE' := hE.out _ _ e1 e2
 clear hh h1 h2 h3 h4 hE e1 e2
 go_enter Tryz.func133,Tryz.ntmps133
 go_wp2_with fail
 exact hE' _ _ rfl rfl ⟨two_new w _ it0⟩ (two_below w _ _)

def boxI (l : List Ms) : It := ⟨1,(l.getD 0 ms0).f,(l.getD (l.length - 1) ms0).t,natV l 0 l.length,0,0,0,false⟩
theorem box_any (v : Value) (l : List Ms) (h0 : 0 < l.length) (h1 : l.length ≤ 4096) (w : World) (hS : RecAt 6 msL w v l) :
  Calls Tryz.prog 132 #[v] w fun e w' => e = .returned (.agg (itC (boxI l))) ∧ Below w.heap.size w w' := by
 have hB := (Below.refl w.heap.size w).alloc (Nat.le_refl _) (.cells (itC it0) 91)
 have hX := IX.new w it0
 have hN := natural_any v l (by omega) 0 l.length _ (hS.below hB (Nat.le_refl _))
 obtain ⟨a,cap,rfl,h2⟩ := hS.ex
 rcases h2 with h2 | ⟨g,o,rfl,hg,hc⟩
 ·rw [h2] at h0; simp at h0
 have c0 : w.cell? ⟨g,o,none⟩ = some (.int .i64 (l.getD 0 ms0).f) := by
  have := hc 0 h0 0 _ rfl
  rw [getD_is h0]
  simpa using this
 have c1 : w.cell? ⟨g,o + (l.length - 1) * 6 + 1,none⟩ = some (.int .i64 (l.getD (l.length - 1) ms0).t) := by
  have := hc (l.length - 1) (by omega) 1 _ rfl
  rw [getD_is (show l.length - 1 < l.length by omega)]
  simpa using this
 have hN' : Hid (Calls Tryz.prog 192 #[.slice (some ⟨g,o,none⟩) l.length cap,.int .i64 0,.int .i64 l.length] (w.alloc (.cells (itC it0) 91)) fun e w' => e = .returned (.tuple #[.int .i64 (natV l 0 l.length),.int .i64 (natE l 0 l.length)]) ∧ Below (w.alloc (.cells (itC it0) 91)).heap.size (w.alloc (.cells (itC it0) 91)) w') := hN
 have hE : Hid (boxI l = ⟨1,(l.getD 0 ms0).f,(l.getD (l.length - 1) ms0).t,natV l 0 l.length,0,0,0,false⟩) := rfl
 generalize boxI l = R at *
 generalize (l.getD 0 ms0).f = f at *
 generalize (l.getD (l.length - 1) ms0).t = t at *
 generalize natV l 0 l.length = nv at *
 generalize natE l 0 l.length = ne at *
 have hn0 : (1 : Int) ≤ l.length := by omega
 have hn1 : (l.length : Int) ≤ 4096 := by omega
 clear hc hS hN
 generalize l.length = n at *
 go_enter Tryz.func132,Tryz.ntmps132
 go_wp2_with (go_at_call 192; refine hN'.out.mono ?_; rintro e w' ⟨rfl,hb⟩)
 have hb1 : Below w.heap.size w w' := hB.trans (hb.mono hB.size)
 have hX1 : IX w' w.heap.size it0 := hX.below hb hX.lt
 refine bo_r2 _ (fun _ _ _ _ _ h => h) _ _ g o n cap w.heap.size f t nv it0 w' ⟨Nat.lt_of_lt_of_le hg hb1.size,(hb1.cell hg).trans c0,(hb1.cell hg).trans c1⟩ ⟨hX1.row⟩ (by omega) hn0 hn1 ?_
 unfold fr71
 have hX2 : IX ((World.drew w').setRow w.heap.size (itC ⟨1,f,t,nv,0,0,0,false⟩)) w.heap.size ⟨1,f,t,nv,0,0,0,false⟩ := IX.set (W := World.drew w') ⟨hX1.row⟩ _
 have hb2 : Below w.heap.size w ((World.drew w').setRow w.heap.size (itC ⟨1,f,t,nv,0,0,0,false⟩)) := below_row (W := World.drew w') ⟨hb1.1,hb1.2,hb1.3,hb1.4,hb1.5⟩ hb1.size (Nat.le_refl _) _
 generalize (World.drew w').setRow w.heap.size (itC ⟨1,f,t,nv,0,0,0,false⟩) = w2 at *
 go_wp2_with fail
 refine bodyPost_ret (results_cell_row rfl _ _ w.heap.size 91 _ (0,0) _ rfl hX2.row Tryz.underlying91 rfl (info51 _)) rfl ⟨?_,hb2⟩
 rw [hE.out]

structure MFit (t : ByteArray) (m : Ms) : Prop where
 f0 : 0 ≤ m.f
 ft : m.f < m.t
 ts : m.t ≤ t.size
 kd : m.k = kindI (bt t m.f.toNat)
 one : m.k ≠ 1 → m.t = m.f + 1
 ok : mOk m = true
structure Bod where
 t : ByteArray
 mv : Value
 pv : Value
 l : List Ms
 pd : List Bool
def bodC (b : Bod) : Array Value := #[.string b.t,b.mv,b.pv]
abbrev BoolsAt (W : World) (v : Value) (l : List Bool) : Prop := RecAt 1 (fun x : Bool => [Value.bool x]) W v l
structure BodAt (W : World) (b : Bod) : Prop where
 ms : RecAt 6 msL W b.mv b.l
 pv : BoolsAt W b.pv b.pd
 len : b.pd.length = b.l.length
 few : b.l.length ≤ 4096
 fit : ∀ m ∈ b.l,MFit b.t m
theorem BodAt.below {W W' : World} {n : Nat} {b : Bod} (h : BodAt W b) (hb : Below n W W') (hn : W.heap.size ≤ n) : BodAt W' b := ⟨h.ms.below hb hn,h.pv.below hb hn,h.len,h.few,h.fit⟩
def mAt (l : List Ms) (i : Nat) : Ms := l.getD i ms0
theorem mAt_is {l : List Ms} {i : Nat} (h : i < l.length) : mAt l i = l[i] := getD_is h
theorem BodAt.fitAt {W : World} {b : Bod} (h : BodAt W b) {i : Nat} (hi : i < b.l.length) : MFit b.t (mAt b.l i) := by rw [mAt_is hi]; exact h.fit _ (List.getElem_mem hi)
theorem ms_at {W : World} {a : Option Addr} {n cap : Nat} {l : List Ms} (h : RecAt 6 msL W (.slice a n cap) l) {i : Nat} (hi : i < l.length) : ∃ b o,a = some ⟨b,o,none⟩ ∧ b < W.heap.size ∧ ∀ (j : Nat) (u : Value),(msL (mAt l i))[j]? = some u → W.cell? ⟨b,o + i * 6 + j,none⟩ = some u := by
 obtain ⟨a',cap',h1,h2⟩ := h.ex
 cases h1
 rcases h2 with h2 | ⟨b,o,rfl,hb,hc⟩
 ·subst h2; simp at hi
 ·exact ⟨b,o,rfl,hb,fun j u hu => by rw [mAt_is hi] at hu; exact hc i hi j u hu⟩
theorem sign_eq {t : ByteArray} {F : Nat} (h : F < t.size) : ((t.extract F (F + 1)).toList == [45]) = decide (bt t F = 45) := by
 have e : (t.extract F (F + 1)).toList = [t[F]] := by
  rw [ByteArray.toList_eq]
  apply List.ext_getElem?
  intro j
  rw [ByteArray.data_extract,Array.getElem?_toList]
  cases j with
  | zero => simp [Array.getElem?_extract,h]; exact ⟨by omega,rfl⟩
  | succ j => simp [Array.getElem?_extract]; omega
 rw [e,bt_eq h]
 by_cases hc : t[F] = 45
 ·rw [hc]; rfl
 ·have : ¬ ((t[F].toNat : Int) = 45) := fun h' => hc (UInt8.toNat_inj.1 (by simpa using (show t[F].toNat = 45 by omega)))
  rw [decide_eq_false this]
  simpa using hc
def sgB (t : ByteArray) (m : Ms) : Bool := decide (m.k = 2 ∧ bt t m.f.toNat = 45)

theorem isSign_any (b : Bod) (i : Nat) (w : World) (hA : BodAt w b) (hi : i < b.l.length) : Calls Tryz.prog 242 #[.agg (bodC b),.int .i64 i] w fun e w' => e = .returned (.bool (sgB b.t (mAt b.l i))) ∧ Below w.heap.size w w' := by
 have hB0 := (Below.refl w.heap.size w).alloc (Nat.le_refl _) (.cells (bodC b) 133)
 have hF := hA.fitAt hi
 obtain ⟨a,cap,hv,-⟩ := hA.ms.ex
 have hms := hA.ms
 rw [hv] at hms
 obtain ⟨g,o,ha,hg,hc⟩ := ms_at hms hi
 have hi' : (i : Int) < b.l.length := by omega
 have hc' : ∀ j u,(msL (mAt b.l i))[j]? = some u → (w.alloc (.cells (bodC b) 133)).cell? ⟨g,o + i * 6 + j,none⟩ = some u := fun j u hu => (hB0.cell hg).trans (hc j u hu)
 have hB1 := hB0.alloc hB0.size (.cells (msC (mAt b.l i)) 107)
 obtain ⟨t,mv,pv,l,pd⟩ := b
 simp only at hv
 subst hv ha
 unfold bodC at *
 simp only at *
 obtain ⟨m,hm⟩ : ∃ m,mAt l i = m := ⟨_,rfl⟩
 rw [hm] at hc' hF hB1 ⊢
 obtain ⟨f,tt,k,s,wd,q⟩ := m
 have c0 := hc' 0 _ rfl
 have c1 := hc' 1 _ rfl
 have c2 := hc' 2 _ rfl
 have c3 := hc' 3 _ rfl
 have c4 := hc' 4 _ rfl
 have c5 := hc' 5 _ rfl
 obtain ⟨F,rfl⟩ : ∃ F : Nat,f = F := ⟨f.toNat,by have := hF.f0; simp only at this; omega⟩
 have h0 := hF.ft
 have h1 := hF.ts
 have h2 := hF.one
 unfold msC at hB1
 simp only [Nat.add_zero] at c0 c1 c2 c3 c4 c5 h0 h1 h2 hB1
 unfold sgB
 simp only [Int.toNat_natCast]
 clear hc hc' hm hA hms hF
 by_cases k2 : k = 2
 ·have e := h2 (by omega)
  subst k2 e
  have hsg := sign_eq (t := t) (F := F) (by omega)
  go_enter Tryz.func242,Tryz.ntmps242
  go_wp2_with fail
  go_ret
  exact ⟨rfl,hB1⟩
 ·rw [decide_eq_false (fun h => k2 h.1)]
  have q2 : (k == 2) = false := by simpa using k2
  clear h2 k2
  go_enter Tryz.func242,Tryz.ntmps242
  go_wp2_with fail
  go_ret
  exact ⟨rfl,hB1⟩
end Go.Proofs.YtlgcnbomfhmjiaaGreatDoor

namespace Go.Proofs.YtlgcnbomfhmjiaaGreatDoor
open Go.RowKit Go.Shelf
set_option maxRecDepth 100000
set_option maxHeartbeats 2000000

def bsB (t : ByteArray) (l : List Ms) (i : Nat) : Bool := decide (2 ≤ i) && sgB t (mAt l (i - 1)) && !sgB t (mAt l i) && !alB (mAt l (i - 2))
theorem mOk_w {m : Ms} (h : mOk m = true) : 0 ≤ m.w ∧ m.w ≤ 4095 := (of_decide_eq_true h).1
theorem ms_cells {W W' : World} {a : Option Addr} {n cap : Nat} {l : List Ms} (h : RecAt 6 msL W (.slice a n cap) l) {i : Nat} (hi : i < l.length) (hW : Below W.heap.size W W') : ∃ b o,a = some ⟨b,o,none⟩ ∧ b < W.heap.size ∧
  W'.cell? ⟨b,o + i * 6,none⟩ = some (.int .i64 (mAt l i).f) ∧ W'.cell? ⟨b,o + i * 6 + 1,none⟩ = some (.int .i64 (mAt l i).t) ∧ W'.cell? ⟨b,o + i * 6 + 2,none⟩ = some (.int .i64 (mAt l i).k) ∧
  W'.cell? ⟨b,o + i * 6 + 3,none⟩ = some (.int .i64 (mAt l i).s) ∧ W'.cell? ⟨b,o + i * 6 + 4,none⟩ = some (.int .i64 (mAt l i).w) ∧ W'.cell? ⟨b,o + i * 6 + 5,none⟩ = some (.int .i64 (mAt l i).q) := by
 obtain ⟨b,o,ha,hb,hc⟩ := ms_at h hi
 exact ⟨b,o,ha,hb,(hW.cell hb).trans (hc 0 _ rfl),(hW.cell hb).trans (hc 1 _ rfl),(hW.cell hb).trans (hc 2 _ rfl),(hW.cell hb).trans (hc 3 _ rfl),(hW.cell hb).trans (hc 4 _ rfl),(hW.cell hb).trans (hc 5 _ rfl)⟩

theorem behindSign_any (b : Bod) (i : Nat) (w : World) (hA : BodAt w b) (hi : i < b.l.length) : Calls Tryz.prog 194 #[.agg (bodC b),.int .i64 i] w fun e w' => e = .returned (.bool (bsB b.t b.l i)) ∧ Below w.heap.size w w' := by
 have hB0 := (Below.refl w.heap.size w).alloc (Nat.le_refl _) (.cells (bodC b) 133)
 have hsg : Hid (∀ j W,j < b.l.length → Below w.heap.size w W → Calls Tryz.prog 242 #[.agg (bodC b),.int .i64 j] W fun e w' => e = .returned (.bool (sgB b.t (mAt b.l j))) ∧ Below w.heap.size w w' ∧ Below W.heap.size W w') := fun j W hj hW => by
  refine (isSign_any b j W (hA.below hW (Nat.le_refl _)) hj).mono ?_
  rintro e w' ⟨rfl,hb⟩
  exact ⟨rfl,hW.trans (hb.mono hW.size),hb⟩
 have hbox : Hid (∀ W,Below (w.alloc (.cells (bodC b) 133)).heap.size (w.alloc (.cells (bodC b) 133)) W → W.cell? ⟨w.heap.size,0,none⟩ = some (.string b.t) ∧ W.cell? ⟨w.heap.size,1,none⟩ = some b.mv ∧ W.cell? ⟨w.heap.size,2,none⟩ = some b.pv) := fun W hW => by
  have h1 : W.heap[w.heap.size]? = some (.cells (bodC b) 133 (0,0)) := (hW.block _ (by simp)).trans (heap_new w _)
  exact ⟨by rw [Lib.cell_of_heap h1]; rfl,by rw [Lib.cell_of_heap h1]; rfl,by rw [Lib.cell_of_heap h1]; rfl⟩
 obtain ⟨a,cap,hv,-⟩ := hA.ms.ex
 have hms := hA.ms
 rw [hv] at hms
 have hfew := hA.few
 have hi' : (i : Int) < b.l.length := by omega
 have hi4 : (i : Int) ≤ 4096 := by omega
 have hal : Hid (2 ≤ i → ∀ W,Below w.heap.size w W → ∃ g o,a = some ⟨g,o,none⟩ ∧ ∃ f t k s wd q,(W.cell? ⟨g,o + (i - 2) * 6,none⟩ = some (.int .i64 f) ∧ W.cell? ⟨g,o + (i - 2) * 6 + 1,none⟩ = some (.int .i64 t) ∧ W.cell? ⟨g,o + (i - 2) * 6 + 2,none⟩ = some (.int .i64 k) ∧ W.cell? ⟨g,o + (i - 2) * 6 + 3,none⟩ = some (.int .i64 s) ∧ W.cell? ⟨g,o + (i - 2) * 6 + 4,none⟩ = some (.int .i64 wd) ∧ W.cell? ⟨g,o + (i - 2) * 6 + 5,none⟩ = some (.int .i64 q)) ∧
   Calls Tryz.prog 133 #[.agg #[.int .i64 f,.int .i64 t,.int .i64 k,.int .i64 s,.int .i64 wd,.int .i64 q]] W fun e w' => (∃ x,e = .returned (.tuple #[.agg (itC x),.bool (alB (mAt b.l (i - 2)))])) ∧ Below w.heap.size w w') := fun h2 W hW => by
  obtain ⟨g,o,ha,_,hc⟩ := ms_cells hms (i := i - 2) (by omega) hW
  refine ⟨g,o,ha,_,_,_,_,_,_,hc,(alone_any (mAt b.l (i - 2)) (mOk_w (hA.fitAt (by omega)).ok) W).mono ?_⟩
  rintro e w' ⟨rfl,hb⟩
  exact ⟨⟨_,rfl⟩,hW.trans (hb.mono hW.size)⟩
 obtain ⟨t,mv,pv,l,pd⟩ := b
 simp only at hv
 subst hv
 unfold bodC at *
 simp only at *
 unfold bsB
 clear hA hms
 by_cases h2 : 2 ≤ i
 ·rw [decide_eq_true h2,Bool.true_and]
  have h2' : ¬ (i : Int) < 2 := by omega
  have h2'' : (2 : Int) ≤ (i : Int) := by omega
  have hj1 : (i : Int) - 1 = ((i - 1 : Nat) : Int) := by omega
  have hj2 : (i : Int) - 2 < l.length := by omega
  have hs1 : Hid (∀ W,Below w.heap.size w W → Calls Tryz.prog 242 #[.agg #[.string t,.slice a l.length cap,pv],.int .i64 ((i : Int) - 1)] W fun e w' => e = .returned (.bool (sgB t (mAt l (i - 1)))) ∧ Below w.heap.size w w' ∧ Below W.heap.size W w') := fun W hW => by
   rw [hj1]
   exact hsg.out (i - 1) W (by omega) hW
  have hs0 : Hid (∀ W,Below w.heap.size w W → Calls Tryz.prog 242 #[.agg #[.string t,.slice a l.length cap,pv],.int .i64 (i : Int)] W fun e w' => e = .returned (.bool (sgB t (mAt l i))) ∧ Below w.heap.size w w' ∧ Below W.heap.size W w') := fun W hW => hsg.out i W hi hW
  have hal2 := hal.out h2
  have hal3 : Hid (∀ W,Below w.heap.size w W → ∃ g o,a = some ⟨g,o,none⟩ ∧ ∃ f t k s wd q,(W.cell? ⟨g,o + (i - 2) * 6,none⟩ = some (.int .i64 f) ∧ W.cell? ⟨g,o + (i - 2) * 6 + 1,none⟩ = some (.int .i64 t) ∧ W.cell? ⟨g,o + (i - 2) * 6 + 2,none⟩ = some (.int .i64 k) ∧ W.cell? ⟨g,o + (i - 2) * 6 + 3,none⟩ = some (.int .i64 s) ∧ W.cell? ⟨g,o + (i - 2) * 6 + 4,none⟩ = some (.int .i64 wd) ∧ W.cell? ⟨g,o + (i - 2) * 6 + 5,none⟩ = some (.int .i64 q)) ∧
   Calls Tryz.prog 133 #[.agg #[.int .i64 f,.int .i64 t,.int .i64 k,.int .i64 s,.int .i64 wd,.int .i64 q]] W fun e w' => (∃ x,e = .returned (.tuple #[.agg (itC x),.bool (alB (mAt l (i - 2)))])) ∧ Below w.heap.size w w') := hal2
  clear hal hal2 hsg hj1
  generalize sgB t (mAt l (i - 1)) = b1 at *
  generalize sgB t (mAt l i) = b0 at *
  generalize alB (mAt l (i - 2)) = b2 at *
  have hW0 : Below (w.alloc (.cells #[.string t,.slice a l.length cap,pv] 133)).heap.size (w.alloc (.cells #[.string t,.slice a l.length cap,pv] 133)) (w.alloc (.cells #[.string t,.slice a l.length cap,pv] 133)) := Below.refl _ _
  have hS : ∀ w',Below (w.alloc (.cells #[.string t,.slice a l.length cap,pv] 133)).heap.size (w.alloc (.cells #[.string t,.slice a l.length cap,pv] 133)) w' → ∀ w'',Below w'.heap.size w' w'' → Below (w.alloc (.cells #[.string t,.slice a l.length cap,pv] 133)).heap.size (w.alloc (.cells #[.string t,.slice a l.length cap,pv] 133)) w'' := fun w' h w'' h' => h.trans (h'.mono h.size)
  have hSh : Hid (∀ w',Below (w.alloc (.cells #[.string t,.slice a l.length cap,pv] 133)).heap.size (w.alloc (.cells #[.string t,.slice a l.length cap,pv] 133)) w' → ∀ w'',Below w'.heap.size w' w'' → Below (w.alloc (.cells #[.string t,.slice a l.length cap,pv] 133)).heap.size (w.alloc (.cells #[.string t,.slice a l.length cap,pv] 133)) w'') := hS
  clear hS
  cases b1 with
  | false =>
   clear hal3 hs0
   go_enter Tryz.func194,Tryz.ntmps194
   go_wp2_with (go_at_call 242; refine (hs1.out _ hB0).mono ?_; rintro e w1 ⟨rfl,hb1,hb1'⟩)
   go_ret
   exact ⟨rfl,hb1⟩
  | true =>
   cases b0 with
   | true =>
    clear hal3
    go_enter Tryz.func194,Tryz.ntmps194
    go_wp2_with (go_at_call 242; first | (with_reducible refine (hs1.out _ hB0).mono ?_; rintro e w1 ⟨rfl,hb1,hb1'⟩; obtain ⟨d0,d1,d2⟩ := hbox.out w1 (hSh.out _ hW0 _ hb1')) | (with_reducible refine (hs0.out _ hb1).mono ?_; rintro e w2 ⟨rfl,hb2,hb2'⟩))
    go_ret
    exact ⟨rfl,hb2⟩
   | false =>
    go_enter Tryz.func194,Tryz.ntmps194
    go_wp2_with (first | (go_at_call 242; first | (with_reducible refine (hs1.out _ hB0).mono ?_; rintro e w1 ⟨rfl,hb1,hb1'⟩; obtain ⟨d0,d1,d2⟩ := hbox.out w1 (hSh.out _ hW0 _ hb1')) | (with_reducible refine (hs0.out _ hb1).mono ?_; rintro e w2 ⟨rfl,hb2,hb2'⟩; obtain ⟨e0,e1,e2⟩ := hbox.out w2 (hSh.out _ (hSh.out _ hW0 _ hb1') _ hb2'); obtain ⟨g,o,rfl,f,tt,k,s,wd,q,⟨c0,c1,c2,c3,c4,c5⟩,hcal⟩ := hal3.out _ hb2)) | (go_at_call 133; refine hcal.mono ?_; rintro e w3 ⟨⟨x,rfl⟩,hb3⟩; obtain ⟨xk,xf,xt,xw,xs,xh,xc,xy⟩ := x; unfold itC))
    go_ret
    exact ⟨by first | rfl | simp,hb3.alloc hb3.size _⟩
 ·rw [decide_eq_false h2]
  have h2' : (i : Int) < 2 := by omega
  clear hal hsg
  go_enter Tryz.func194,Tryz.ntmps194
  go_wp2_with fail
  go_ret
  exact ⟨rfl,hB0⟩
end Go.Proofs.YtlgcnbomfhmjiaaGreatDoor

namespace Go.Proofs.YtlgcnbomfhmjiaaGreatDoor
open Go.RowKit Go.Shelf
set_option maxRecDepth 100000
set_option maxHeartbeats 4000000

def pdAt (l : List Bool) (i : Nat) : Bool := l.getD i false
def cuB (t : ByteArray) (l : List Ms) (pd : List Bool) (i : Nat) : Bool := pdAt pd i || bsB t l i
def cutI (t : ByteArray) (l : List Ms) (pd : List Bool) (i : Nat) : It :=
 if pdAt pd i = true then ⟨3,(mAt l i).f,(mAt l i).f,hyW (mAt l i).s,0,0,100,true⟩ else if bsB t l i = true then ⟨3,(mAt l i).f,(mAt l i).f,0,0,0,50,false⟩ else it0
theorem bool_at {W W' : World} {v : Value} {l : List Bool} (h : BoolsAt W v l) {i : Nat} (hi : i < l.length) (hW : Below W.heap.size W W') : ∃ b o c,v = .slice (some ⟨b,o,none⟩) l.length c ∧ W'.cell? ⟨b,o + i,none⟩ = some (.bool (pdAt l i)) := by
 obtain ⟨a,cap,h1,h2⟩ := h.ex
 rcases h2 with h2 | ⟨b,o,rfl,hb,hc⟩
 ·subst h2; simp at hi
 ·refine ⟨b,o,cap,h1,?_⟩
  have := hc i hi 0 (.bool l[i]) rfl
  rw [(hW.cell hb)]
  unfold pdAt
  rw [List.getD_eq_getElem?_getD,List.getElem?_eq_getElem hi]
  simpa using this

theorem cut_any (b : Bod) (i : Nat) (w : World) (hA : BodAt w b) (hi : i < b.l.length) : Calls Tryz.prog 134 #[.agg (bodC b),.int .i64 i] w fun e w' => e = .returned (.tuple #[.agg (itC (cutI b.t b.l b.pd i)),.bool (cuB b.t b.l b.pd i)]) ∧ Below w.heap.size w w' := by
 have hbs : Hid (∀ W,Below w.heap.size w W → Calls Tryz.prog 194 #[.agg (bodC b),.int .i64 i] W fun e w' => e = .returned (.bool (bsB b.t b.l i)) ∧ Below w.heap.size w w' ∧ Below W.heap.size W w') := fun W hW => by
  refine (behindSign_any b i W (hA.below hW (Nat.le_refl _)) hi).mono ?_
  rintro e w' ⟨rfl,hb⟩
  exact ⟨rfl,hW.trans (hb.mono hW.size),hb⟩
 obtain ⟨a,cap,hv,-⟩ := hA.ms.ex
 have hms := hA.ms
 rw [hv] at hms
 have hi' : (i : Int) < b.l.length := by omega
 obtain ⟨g,o,ha,hg,hcs⟩ := ms_at hms hi
 obtain ⟨pg,po,pc,hpv,hpc⟩ := bool_at hA.pv (i := i) (by rw [hA.len]; exact hi) (Below.refl _ _)
 rw [hA.len] at hpv
 have hpg := hpc
 obtain ⟨w2,hw2⟩ : ∃ w2,(w.alloc (.cells (bodC b) 133)).alloc (.cells (itC it0) 91) = w2 := ⟨_,rfl⟩
 obtain ⟨w3,hw3⟩ : ∃ w3,w2.alloc (.cells (msC (mAt b.l i)) 107) = w3 := ⟨_,rfl⟩
 have hs2 : w2.heap.size = w.heap.size + 2 := by rw [← hw2]; simp
 have hs3 : w3.heap.size = w.heap.size + 3 := by rw [← hw3]; simp [hs2]
 have hB2 : Below w.heap.size w w2 := by rw [← hw2]; exact two_below w _ _
 have hB3 : Below w.heap.size w w3 := by rw [← hw3]; exact hB2.alloc hB2.size _
 have hM3 : MX (w.heap.size + 2) (mAt b.l i) w3 := ⟨by rw [← hw3,← hs2]; exact heap_new w2 _⟩
 have hI2 : IX w2 (w.heap.size + 1) it0 := ⟨by rw [← hw2]; exact two_new w _ it0⟩
 have hI3 : IX w3 (w.heap.size + 1) it0 := ⟨by rw [← hw3]; exact (Below.heap_alloc _ _ _ (by omega)).trans hI2.row⟩
 have hbx : w3.heap[w.heap.size]? = some (.cells (bodC b) 133 (0,0)) := by
  rw [← hw3,← hw2]
  exact (Below.heap_alloc _ _ _ (by simp; omega)).trans ((Below.heap_alloc _ _ _ (by simp)).trans (heap_new w _))
 have hE : Hid (∀ (x : It) (r : Bool),cutI b.t b.l b.pd i = x → cuB b.t b.l b.pd i = r → ∀ (W2 : World) (tm : Array Value),tm.getD 4 undef = .pointer (some ⟨w.heap.size + 1,0,none⟩) → tm.getD 5 undef = .bool r → IX W2 (w.heap.size + 1) x → Below w.heap.size w W2 → bodyPost Tryz.prog Tryz.f134 (fun e w' => e = .returned (.tuple #[.agg (itC (cutI b.t b.l b.pd i)),.bool (cuB b.t b.l b.pd i)]) ∧ Below w.heap.size w w') .ret { tmps := tm,defers := [] } W2) := fun x r hx hr W2 tm h2 h3 hI hb => by
  refine bodyPost_ret (results_cell_row2 rfl _ _ (w.heap.size + 1) 91 (itC x) (0,0) _ h2 hI.row Tryz.underlying91 rfl (info51 _)) rfl ⟨?_,hb⟩
  rw [h3,hx,hr]
 have hy1 : Hid (pdAt b.pd i = true → cutI b.t b.l b.pd i = ⟨3,(mAt b.l i).f,(mAt b.l i).f,hyW (mAt b.l i).s,0,0,100,true⟩ ∧ cuB b.t b.l b.pd i = true) := fun h => ⟨by unfold cutI; rw [if_pos h],by unfold cuB; rw [h]; rfl⟩
 have hy2 : Hid (pdAt b.pd i = false → bsB b.t b.l i = true → cutI b.t b.l b.pd i = ⟨3,(mAt b.l i).f,(mAt b.l i).f,0,0,0,50,false⟩ ∧ cuB b.t b.l b.pd i = true) := fun h h' => ⟨by unfold cutI; rw [if_neg (by rw [h]; decide),if_pos h'],by unfold cuB; rw [h,h']; rfl⟩
 have hy3 : Hid (pdAt b.pd i = false → bsB b.t b.l i = false → cutI b.t b.l b.pd i = it0 ∧ cuB b.t b.l b.pd i = false) := fun h h' => ⟨by unfold cutI; rw [if_neg (by rw [h]; decide),if_neg (by rw [h']; decide)],by unfold cuB; rw [h,h']; rfl⟩
 have hcp : Hid (∀ W,Below w.heap.size w W → W.cell? ⟨pg,po + i,none⟩ = some (.bool (pdAt b.pd i))) := fun W hW => by
  obtain ⟨pg',po',pc',hpv',h⟩ := bool_at hA.pv (i := i) (by rw [hA.len]; exact hi) hW
  rw [hA.len,hpv] at hpv'
  cases hpv'
  exact h
 have hcm : Hid (∀ W,Below w.heap.size w W → ∀ (j : Nat) (u : Value),(msL (mAt b.l i))[j]? = some u → W.cell? ⟨g,o + i * 6 + j,none⟩ = some u) := fun W hW j u hu => (hW.cell hg).trans (hcs j u hu)
 have hX : IX w3.drew (w.heap.size + 1) it0 := ⟨hI3.row⟩
 generalize cutI b.t b.l b.pd i = CI at *
 generalize cuB b.t b.l b.pd i = CB at *
 generalize bsB b.t b.l i = BS at *
 generalize pdAt b.pd i = PD at *
 have cP := hcp.out _ hB3
 have hm2 := hcm.out _ hB2
 generalize mAt b.l i = m at *
 obtain ⟨t,mv,pv,l,pd⟩ := b
 simp only at hv hpv
 subst hv ha hpv
 obtain ⟨mf,mt,mk,msz,mw,mq⟩ := m
 have c0 := hm2 0 _ rfl
 have c1 := hm2 1 _ rfl
 have c2 := hm2 2 _ rfl
 have c3 := hm2 3 _ rfl
 have c4 := hm2 4 _ rfl
 have c5 := hm2 5 _ rfl
 unfold bodC at *
 simp only [Nat.add_zero] at c0 c1 c2 c3 c4 c5 hi hi' hbs hE hy1 hy2 hy3 hw3 hw2 hcp cP hM3
 unfold msC at hw3
 unfold itC it0 at hw2
 simp only at hw2 hw3
 clear hcp hcm hm2 hcs hms hA hpc hpg hI2 hbx hI3
 have hM4 : Hid (MX (w.heap.size + 2) ⟨mf,mt,mk,msz,mw,mq⟩ w3.drew) := ⟨hM3.row⟩
 have hX4 : Hid (IX w3.drew (w.heap.size + 1) it0) := hX
 have hB4 : Hid (Below w.heap.size w w3) := hB3
 have hI5 : Hid (IX w3 (w.heap.size + 1) it0) := ⟨hX.row⟩
 clear hM3 hX hs2 hs3
 have hw3' : Hid (w2.alloc (.cells #[.int .i64 mf,.int .i64 mt,.int .i64 mk,.int .i64 msz,.int .i64 mw,.int .i64 mq] 107) = w3) := hw3
 have hw2' : Hid ((w.alloc (.cells #[.string t,.slice (some ⟨g,o,none⟩) l.length cap,.slice (some ⟨pg,po,none⟩) l.length pc] 133)).alloc (.cells #[.int .i64 0,.int .i64 0,.int .i64 0,.int .i64 0,.int .i64 0,.int .i64 0,.int .i64 0,.bool false] 91) = w2) := hw2
 subst hw3 hw2
 cases PD with
 | true =>
  obtain ⟨e1,e2⟩ := hy1.out rfl
  have hE' := hE.out _ _ e1 e2
  have hE2 : Hid (∀ (W2 : World) (tm : Array Value),tm.getD 4 undef = .pointer (some ⟨w.heap.size + 1,0,none⟩) → tm.getD 5 undef = .bool true → IX W2 (w.heap.size + 1) ⟨3,mf,mf,hyW msz,0,0,100,true⟩ → Below w.heap.size w W2 → bodyPost Tryz.prog Tryz.f134 (fun e w' => e = .returned (.tuple #[.agg (itC CI),.bool CB]) ∧ Below w.heap.size w w') .ret { tmps := tm,defers := [] } W2) := hE'
  clear hy1 hy2 hy3 hE hE' e1 e2 hbs
  go_enter Tryz.func134,Tryz.ntmps134
  go_wp2_with fail
  refine cu_r3 _ (fun _ _ _ _ _ h => h) _ _ (w.heap.size + 2) (w.heap.size + 1) ⟨mf,mt,mk,msz,mw,mq⟩ it0 _ hM4.out hX4.out (by omega) ?_
  unfold fr73
  have hI6 : Hid (IX _ _ _) := hX4.out.set ⟨3,mf,mf,hyW msz,0,0,100,true⟩
  have hb6 : Hid (Below w.heap.size w _) := below_row (b := w.heap.size + 1) (below_drewM hB4.out 1) hB4.out.size (Nat.le_succ _) (itC ⟨3,mf,mf,hyW msz,0,0,100,true⟩)
  clear hM4 hX4 hI5 hB4
  go_wp2_with fail
  exact hE2.out _ _ rfl rfl hI6.out hb6.out
 | false =>
  have hcl : Hid (∀ W,Below (w.heap.size + 3) ((((w.alloc (.cells #[.string t,.slice (some ⟨g,o,none⟩) l.length cap,.slice (some ⟨pg,po,none⟩) l.length pc] 133)).alloc (.cells #[.int .i64 0,.int .i64 0,.int .i64 0,.int .i64 0,.int .i64 0,.int .i64 0,.int .i64 0,.bool false] 91)).alloc (.cells #[.int .i64 mf,.int .i64 mt,.int .i64 mk,.int .i64 msz,.int .i64 mw,.int .i64 mq] 107))) W → IX W (w.heap.size + 1) it0 ∧ W.cell? ⟨w.heap.size + 2,0,none⟩ = some (.int .i64 mf)) := fun W hW => by
   refine ⟨hI5.out.below hW (by omega),?_⟩
   rw [hW.cell (show w.heap.size + 2 < w.heap.size + 3 by omega)]
   exact hM4.out.c0
  cases BS with
  | true =>
   obtain ⟨e1,e2⟩ := hy2.out rfl rfl
   have hE' := hE.out _ _ e1 e2
   have hE2 : Hid (∀ (W2 : World) (tm : Array Value),tm.getD 4 undef = .pointer (some ⟨w.heap.size + 1,0,none⟩) → tm.getD 5 undef = .bool true → IX W2 (w.heap.size + 1) ⟨3,mf,mf,0,0,0,50,false⟩ → Below w.heap.size w W2 → bodyPost Tryz.prog Tryz.f134 (fun e w' => e = .returned (.tuple #[.agg (itC CI),.bool CB]) ∧ Below w.heap.size w w') .ret { tmps := tm,defers := [] } W2) := hE'
   clear hy1 hy2 hy3 hE hE' e1 e2 hM4 hX4 hI5
   go_enter Tryz.func134,Tryz.ntmps134
   go_wp2_with (first | (go_at_call 194; refine (hbs.out _ hB4.out).mono ?_; rintro e w4 ⟨rfl,hb4,hb4'⟩; obtain ⟨hI7,k0⟩ := hcl.out w4 (by simpa using hb4')) | (refine wpList_store_row rfl 91 _ _ rfl (w.heap.size + 1) (itC ⟨3,mf,mf,0,0,0,50,false⟩) rfl rfl 91 _ hI7.row (info51 _) rfl (itC_one _) ?_))
   exact hE2.out _ _ rfl rfl (hI7.set _) (below_row hb4 hb4.size (Nat.le_succ _) _)
  | false =>
   obtain ⟨e1,e2⟩ := hy3.out rfl rfl
   have hE' := hE.out _ _ e1 e2
   have hE2 : Hid (∀ (W2 : World) (tm : Array Value),tm.getD 4 undef = .pointer (some ⟨w.heap.size + 1,0,none⟩) → tm.getD 5 undef = .bool false → IX W2 (w.heap.size + 1) it0 → Below w.heap.size w W2 → bodyPost Tryz.prog Tryz.f134 (fun e w' => e = .returned (.tuple #[.agg (itC CI),.bool CB]) ∧ Below w.heap.size w w') .ret { tmps := tm,defers := [] } W2) := hE'
   clear hy1 hy2 hy3 hE hE' e1 e2 hM4 hX4 hI5
   go_enter Tryz.func134,Tryz.ntmps134
   go_wp2_with (first | (go_at_call 194; refine (hbs.out _ hB4.out).mono ?_; rintro e w4 ⟨rfl,hb4,hb4'⟩; obtain ⟨hI7,k0⟩ := hcl.out w4 (by simpa using hb4')) | (refine wpList_store_row rfl 91 _ _ rfl (w.heap.size + 1) (itC it0) rfl rfl 91 _ hI7.row (info51 _) rfl (itC_one _) ?_))
   exact hE2.out _ _ rfl rfl (hI7.set _) (below_row hb4 hb4.size (Nat.le_succ _) _)
end Go.Proofs.YtlgcnbomfhmjiaaGreatDoor
