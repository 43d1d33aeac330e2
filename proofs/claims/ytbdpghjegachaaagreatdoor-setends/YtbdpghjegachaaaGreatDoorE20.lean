/-
  What is proved here: which bytes word of item tells.
  What is proved here: which places within words part of item marks.
-/
import Derived.Test.YtbdpghjegachaaaGreatDoorE11
import Derived.Test.YtbdpghjegachaaaGreatDoorE19
namespace Go.Proofs.YtbdpghjegachaaaGreatDoor
open Go.RowKit Go.Shelf
set_option maxRecDepth 100000
set_option maxHeartbeats 2000000

def inW (l : List Ms) (a i : Nat) : Prop := (mAt l i).k = 1 ∧ (mAt l i).s = (mAt l a).s
instance (l : List Ms) (a i : Nat) : Decidable (inW l a i) := by unfold inW; infer_instance
def wnF (l : List Ms) (a : Nat) : Nat → Nat → Nat
 | 0,j => j
 | n + 1,j => if inW l a (a + j) then wnF l a n (j + 1) else j
def wn (l : List Ms) (a : Nat) : Nat := wnF l a (l.length - a) 0
theorem wnF_go {l : List Ms} {a : Nat} : ∀ (n j m : Nat),(∀ i,i < m → inW l a (a + (j + i))) → m ≤ n → (m = n ∨ ¬ inW l a (a + (j + m))) → wnF l a n j = j + m
 | 0, j, m, _, hm, _ => by obtain rfl : m = 0 := by omega
                           rfl
 | n + 1,j,0,_,_,h => by
  unfold wnF
  rcases h with h | h
  ·cases h
  ·rw [if_neg (by simpa using h)]; rfl
 | n + 1, j, m + 1, h, hm, h' => by
  unfold wnF
  rw [if_pos (by have := h 0 (by omega); simpa using this),wnF_go n (j + 1) m (fun i hi => by have := h (i + 1) (by omega); rwa [show j + 1 + i = j + (i + 1) by omega]) (by omega) (by
   rcases h' with h' | h'
   ·left; omega
   ·right; rwa [show j + 1 + m = j + (m + 1) by omega])]
  omega
theorem wn_is {l : List Ms} {a m : Nat} (h : ∀ i,i < m → inW l a (a + i)) (hm : a + m ≤ l.length) (h' : a + m = l.length ∨ ¬ inW l a (a + m)) : wn l a = m := by
 unfold wn
 have := wnF_go (l := l) (a := a) (l.length - a) 0 m (fun i hi => by simpa using h i hi) (by omega) (by
  rcases h' with h' | h'
  ·left; omega
  ·right; simpa using h')
 simpa using this
def byAt (t : ByteArray) (f : Int) : UInt8 := t.data.getD f.toNat 0
def wdB (t : ByteArray) (l : List Ms) (a : Nat) : Nat → List UInt8
 | 0 => []
 | k + 1 => wdB t l a k ++ [byAt t (mAt l (a + k)).f]
theorem wdB_len (t : ByteArray) (l : List Ms) (a : Nat) : ∀ k,(wdB t l a k).length = k
 | 0 => rfl
 | k + 1 => by show (wdB t l a k ++ _).length = _; rw [List.length_append,wdB_len t l a k]; rfl
theorem ownsRow_dn {W : World} {base : Nat} {e : TypeId} {size : Nat} {v : Value} {n : Nat} {xs : List Value} (h : W.ownsRow base e size v n xs) (q : Nat) : (W.drewN q).ownsRow base e size v n xs := ⟨h.1,h.2⟩
theorem info5 : (Tryz.prog.info? 5).map (fun i => (i.zero,i.size,i.bytes)) = some (some (.int .u8 0),1,1) := by kernel_rfl
theorem slice54l {g o n cap f : Nat} (h1 : f < n) (h2 : n ≤ cap) (W : World) : (Instr.slice 48 (.slice (some ⟨g,o,none⟩) n cap) (some (.int .i64 (f : Int))) none none).run Tryz.prog W = .ok (.slice (some ⟨g,o + f * 6,none⟩) (n - f) (cap - f)) W := by
 have he : Tryz.prog.elem 48 = 53 := by kernel_rfl
 have hu : Tryz.prog.underlying 48 = some (.slice (Tryz.prog.elem 48)) := by rw [he]; exact Tryz.underlying48
 have hr := run_slice_l (P := Tryz.prog) (w := W) 48 (some ⟨g,o,none⟩) n cap hu .i64 f (by omega) (by omega)
 have hs : (sizeOf (Tryz.prog.elem 48)).run Tryz.prog W = .ok 6 W := by kernel_rfl
 rw [hs] at hr
 simp only [Result.andThen,sliced,Int.toNat_natCast] at hr
 rw [if_neg (by omega)] at hr
 rw [hr]
 simp [addr_add]

theorem word_any (b : Bod) (i : Nat) (w : World) (hA : BodAt w b) (hi : i < b.l.length) :
  Calls Tryz.prog 146 #[.agg (bodC b),.int .i64 i] w fun e w' => e = .returned (.string ⟨(wdB b.t b.l i (wn b.l i)).toArray⟩) ∧ Below w.heap.size w w' := by
 have hB0 := (Below.refl w.heap.size w).alloc (Nat.le_refl _) (.cells (bodC b) 171)
 have hbx := heap_new w (.cells (bodC b) 171)
 obtain ⟨a,cap,hv,h2⟩ := hA.ms.ex
 have hle := hA.ms.le _ _ _ hv
 have hfew := hA.few
 have hms := hA.ms
 rw [hv] at hms
 obtain ⟨g,o,rfl,hg,-⟩ := ms_at hms hi
 have hcl : Hid (∀ j,j < b.l.length → ∀ W',Below w.heap.size w W' → W'.cell? ⟨g,o + j * 6,none⟩ = some (.int .i64 (mAt b.l j).f) ∧ W'.cell? ⟨g,o + j * 6 + 1,none⟩ = some (.int .i64 (mAt b.l j).t) ∧ W'.cell? ⟨g,o + j * 6 + 2,none⟩ = some (.int .i64 (mAt b.l j).k) ∧
  W'.cell? ⟨g,o + j * 6 + 3,none⟩ = some (.int .i64 (mAt b.l j).s) ∧ W'.cell? ⟨g,o + j * 6 + 4,none⟩ = some (.int .i64 (mAt b.l j).w) ∧ W'.cell? ⟨g,o + j * 6 + 5,none⟩ = some (.int .i64 (mAt b.l j).q)) := fun j hj W' hW => by
  obtain ⟨g',o',e,_,h⟩ := ms_cells hms hj hW
  cases e
  exact h
 have hft : Hid (∀ j,j < b.l.length → MFit b.t (mAt b.l j)) := fun j hj => hA.fitAt hj
 have hE : Hid (∀ m,(∀ k,k < m → inW b.l i (i + k)) → i + m ≤ b.l.length → (i + m = b.l.length ∨ ¬ inW b.l i (i + m)) → wn b.l i = m) := fun m h1 h2 h3 => wn_is h1 h2 h3
 have hsl := slice54l (g := g) (o := o) hi hle (w.alloc (.cells (bodC b) 171))
 obtain ⟨t,mv,pv,l,pd⟩ := b
 simp only at hv
 subst hv
 unfold bodC at *
 simp only at *
 generalize hwn : wn l i = wnn at *
 obtain ⟨w1,hw1⟩ : ∃ w1,w.alloc (.cells #[.string t,.slice (some ⟨g,o,none⟩) l.length cap,pv] 171) = w1 := ⟨_,rfl⟩
 have hb1 : Hid (Below w.heap.size w w1) := by rw [← hw1]; exact hB0
 have hbx1 : w1.heap[w.heap.size]? = some (.cells #[.string t,.slice (some ⟨g,o,none⟩) l.length cap,pv] 171 (0,0)) := by rw [← hw1]; exact hbx
 have hs1 : w1.heap.size = w.heap.size + 1 := by rw [← hw1]; simp
 have hbox : Hid (∀ W',Below w1.heap.size w1 W' → W'.cell? ⟨w.heap.size,0,none⟩ = some (.string t) ∧ W'.cell? ⟨w.heap.size,1,none⟩ = some (.slice (some ⟨g,o,none⟩) l.length cap)) := fun W' hW => by
  have h1 : W'.heap[w.heap.size]? = some (.cells #[.string t,.slice (some ⟨g,o,none⟩) l.length cap,pv] 171 (0,0)) := (hW.block _ (by omega)).trans hbx1
  exact ⟨by rw [Lib.cell_of_heap h1]; rfl,by rw [Lib.cell_of_heap h1]; rfl⟩
 have hi' : (i : Int) < l.length := by omega
 have hi4 : (l.length : Int) ≤ 4096 := by omega
 obtain ⟨i5,hi5,hz0,hz1,hz2⟩ := info_parts info5
 clear hA hms h2 hB0 hbx hbx1
 obtain ⟨m,hm⟩ : ∃ m,l.length - i = m := ⟨_,rfl⟩
 rw [hm] at hsl
 have hm1 : Hid (i + m = l.length) := by show _ = _; omega
 rw [hw1] at hsl
 obtain ⟨e0,e1⟩ := hbox.out w1 (Below.refl _ _)
 go_enter Tryz.func146,Tryz.ntmps146
 go_wp2_with fail
 clear e0 e1 hsl
 go_loopw [5,13] (fun v j wr => ∃ k : Nat,k ≤ m ∧ j = .int .i64 k ∧ Hid (Below w1.heap.size w1 wr ∧ wr.ownsRow w1.heap.size 5 1 v k (Lib.byteCells (wdB t l i k)) ∧ ∀ q,q < k → inW l i (i + q))) (fun _ j _ => m - (intOf j).toNat)
 case atStart => exact ⟨0,by omega,rfl,Below.refl _ _,World.ownsRow_nil _ _ _ _,fun q hq => by omega⟩
 case round =>
  obtain ⟨k,hk,rfl,hH⟩ := hrel
  obtain ⟨hbel,hrow,hall⟩ := hH.out
  obtain ⟨av,cv,rfl⟩ := Hy.row_val hrow
  have hbw : Below w.heap.size w wr := hb1.out.trans (hbel.mono (by omega))
  have hend : Hid ((i + k = l.length ∨ ¬ inW l i (i + k)) → ∀ wr',Below w.heap.size w wr' → wr'.ownsRow w1.heap.size 5 1 (.slice av k cv) k (Lib.byteCells (wdB t l i k)) → (convert 176 9 (.slice av k cv)).run Tryz.prog wr' = .ok (.string ⟨(wdB t l i wnn).toArray⟩) wr') := fun h wr' _ hr => by
   have e := hE.out k hall (by have := hm1.out; omega) h
   rw [e]
   have := Hy.conv_bytes (l := wdB t l i k) (W := wr') (v := .slice av k cv) (base := w1.heap.size) (by rw [wdB_len]; exact hr)
   exact this
  by_cases hlt : k < m
  ·have hlt' : (k : Int) < m := by omega
   have hil : i + k < l.length := by have := hm1.out; omega
   obtain ⟨c0,c1,c2,c3,c4,c5⟩ := hcl.out (i + k) hil wr hbw
   obtain ⟨_,_,_,s3,_,_⟩ := hcl.out i hi wr hbw
   obtain ⟨d0,d1⟩ := hbox.out wr hbel
   have hF := hft.out (i + k) hil
   have ha6 : o + (i + k) * 6 = o + i * 6 + k * 6 := by rw [Nat.add_mul]; omega
   rw [ha6] at c0 c1 c2 c3 c4 c5
   have hnx : Hid (inW l i (i + k) → ∀ q,q < k + 1 → inW l i (i + q)) := fun h q hq => by
    by_cases hq' : q < k
    ·exact hall q hq'
    ·obtain rfl : q = k := by omega
     exact h
   have hby : Hid (∀ F,(mAt l (i + k)).f = (F : Nat) → F < t.size → wdB t l i (k + 1) = wdB t l i k ++ [t.data.getD F 0]) := fun F h _ => by
    show wdB t l i k ++ [byAt t (mAt l (i + k)).f] = _
    unfold byAt
    rw [h,Int.toNat_natCast]
   have hin : Hid (inW l i (i + k) ↔ ((mAt l (i + k)).k = 1 ∧ (mAt l (i + k)).s = (mAt l i).s)) := Iff.rfl
   generalize mAt l (i + k) = mm at *
   obtain ⟨s0,hs0⟩ : ∃ s0,(mAt l i).s = s0 := ⟨_,rfl⟩
   rw [hs0] at s3 hin
   obtain ⟨f,tt,kd,s,wd,q⟩ := mm
   obtain ⟨F,rfl⟩ : ∃ F : Nat,f = F := ⟨f.toNat,by have := hF.f0; simp only at this; omega⟩
   have hF1 : F < t.size := by have h1 := hF.ft; have h2 := hF.ts; simp only at h1 h2; omega
   simp only at c0 c1 c2 c3 c4 c5 hby hin
   have hB2 := hbel.alloc hbel.size (.cells #[.int .i64 (F : Nat),.int .i64 tt,.int .i64 kd,.int .i64 s,.int .i64 wd,.int .i64 q] 53)
   have hB3 := hbw.alloc hbw.size (.cells #[.int .i64 (F : Nat),.int .i64 tt,.int .i64 kd,.int .i64 s,.int .i64 wd,.int .i64 q] 53)
   have hrow2 : Hid (wr.ownsRow w1.heap.size 5 1 (.slice av k cv) k (Lib.byteCells (wdB t l i k))) := hrow
   have hsz := hbel.size
   obtain ⟨x0,x1⟩ := hbox.out _ hB2
   obtain ⟨_,_,_,x3,_,_⟩ := hcl.out i hi _ hB3
   rw [hs0] at x3
   clear hs0
   clear hF ha6 hcl hft hE hH hall hrow hbel hw1 hbox hb1
   by_cases h1 : kd = 1
   ·subst h1
    by_cases h2 : s = s0
    ·subst h2
     have hall2 : Hid (∀ q,q < k + 1 → inW l i (i + q)) := hnx.out (hin.out.2 ⟨rfl,rfl⟩)
     have hw2 : Hid (wdB t l i (k + 1) = wdB t l i k ++ [t.data.getD F 0]) := hby.out F rfl hF1
     have hge : t.data.getD F 0 = (t[F]'hF1) := by
      rw [Array.getD_eq_getD_getElem?,Array.getElem?_eq_getElem (show F < t.data.size from hF1)]; rfl
     clear hend hnx hby hin
     go_wp2_with fail
     go_quiet (fail)
     rename_i nq
     have hB4 : Hid (Below w1.heap.size w1 ((wr.alloc (.cells #[.int .i64 (F : Nat),.int .i64 tt,.int .i64 1,.int .i64 s,.int .i64 wd,.int .i64 q] 53)).drewN nq)) := below_drewM hB2 nq
     have hr4 : Hid (((wr.alloc (.cells #[.int .i64 (F : Nat),.int .i64 tt,.int .i64 1,.int .i64 s,.int .i64 wd,.int .i64 q] 53)).drewN nq).ownsRow w1.heap.size 5 1 (.slice av k cv) k (Lib.byteCells (wdB t l i k))) := by
      have := hrow2.out.alloc (.cells #[.int .i64 (F : Nat),.int .i64 tt,.int .i64 1,.int .i64 s,.int .i64 wd,.int .i64 q] 53)
      exact ⟨this.1,this.2⟩
     have y0 : ((wr.alloc (.cells #[.int .i64 (F : Nat),.int .i64 tt,.int .i64 1,.int .i64 s,.int .i64 wd,.int .i64 q] 53)).drewN nq).cell? ⟨w.heap.size,0,none⟩ = some (.string t) := x0
     have y1 : ((wr.alloc (.cells #[.int .i64 (F : Nat),.int .i64 tt,.int .i64 1,.int .i64 s,.int .i64 wd,.int .i64 q] 53)).drewN nq).cell? ⟨wr.heap.size,0,none⟩ = some (.int .i64 (F : Nat)) := by
      show (wr.alloc _).cell? _ = _
      rw [Lib.cell_of_heap (heap_new wr _)]; rfl
     clear hrow2 hB2 hB3 x0 x1 x3 c0 c1 c2 c3 c4 c5 s3 d0 d1 hbw
     generalize (wr.alloc (.cells #[.int .i64 (F : Nat),.int .i64 tt,.int .i64 1,.int .i64 s,.int .i64 wd,.int .i64 q] 53)).drewN nq = w4 at *
     have hs5 : w1.heap.size ≤ w4.heap.size := hB4.out.size
     have hnext : Hid (∀ v' w2,w2.ownsRow w1.heap.size 5 1 v' (k + 1) (Lib.byteCells (wdB t l i k) ++ [.int .u8 ((t[F]'hF1).toNat : Int)]) → (w4.alloc (.cells #[.int .u8 ((t[F]'hF1).toNat : Int)] 5)).grownBy w2 (Value.slice av k cv).ownBlock → Below w1.heap.size w1 w2 ∧ w2.ownsRow w1.heap.size 5 1 v' (k + 1) (Lib.byteCells (wdB t l i (k + 1)))) := by
      intro v' w2 h1 h2
      refine ⟨below_grown (hB4.out.alloc hB4.out.size _) (hr4.out.alloc _) (Nat.le_refl _) (Nat.le_refl _) h2,?_⟩
      rw [hw2.out,hge]
      have e : Lib.byteCells (wdB t l i k ++ [t[F]'hF1]) = Lib.byteCells (wdB t l i k) ++ [.int .u8 ((t[F]'hF1).toNat : Int)] := by simp [Lib.byteCells]
      rw [e]; exact h1
     clear hw2 hge
     go_wp2_with (at_builtin; refine wpList_append_any _ rfl _ _ 176 rfl w1.heap.size 5 i5 _ 1 1 Tryz.underlying176 hi5 hz0 hz1 hz2 rfl (by decide) _ k _ rfl (by exact hr4.out.alloc _) 1 _ _ rfl (by exact Hy.srcs_one w4 5 (.int .u8 ((t[F]'hF1).toNat : Int)) rfl) (by unfold maxLen; omega) (by omega) (by simp; omega) ?_; intro v2 w2 hown hgrow; obtain ⟨a2,cap2,rfl⟩ := Hy.row_val hown)
     have hfin := hnext.out _ w2 hown hgrow
     go_roundw
     case rel => exact ⟨k + 1,by omega,by simp,hfin.1,hfin.2,hall2.out⟩
     case measure => simp [intOf]; omega
    ·have hcv0 : Hid (∀ wr',Below w.heap.size w wr' → wr'.ownsRow w1.heap.size 5 1 (.slice av k cv) k (Lib.byteCells (wdB t l i k)) → (convert 176 9 (.slice av k cv)).run Tryz.prog wr' = .ok (.string ⟨(wdB t l i wnn).toArray⟩) wr') := hend.out (.inr (fun h => h2 (hin.out.1 h).2))
     have h2' : ¬ s = s0 := h2
     clear hend hnx hby hin
     go_wp2_with fail
     have g2 : (s == s0) = false := by simpa using h2
     go_quiet (fail)
     rename_i nq
     have hcv := hcv0.out _ (below_drewM hB3 nq) (ownsRow_dn (hrow2.out.alloc _) nq)
     go_wp2_with fail
     go_ret
     exact ⟨rfl,below_drewM hB3 _⟩
   ·have hcv0 : Hid (∀ wr',Below w.heap.size w wr' → wr'.ownsRow w1.heap.size 5 1 (.slice av k cv) k (Lib.byteCells (wdB t l i k)) → (convert 176 9 (.slice av k cv)).run Tryz.prog wr' = .ok (.string ⟨(wdB t l i wnn).toArray⟩) wr') := hend.out (.inr (fun h => h1 (hin.out.1 h).1))
    clear hend hnx hby hin
    go_wp2_with fail
    have g2 : (kd == 1) = false := by simpa using h1
    go_quiet (fail)
    rename_i nq
    have hcv := hcv0.out _ (below_drewM hB3 nq) (ownsRow_dn (hrow2.out.alloc _) nq)
    go_wp2_with fail
    go_ret
    exact ⟨rfl,below_drewM hB3 _⟩
  ·obtain rfl : k = m := by omega
   have hcv := hend.out (.inl hm1.out) wr hbw hrow
   have hge : ¬ (k : Int) < k := by omega
   clear hend hcl hft hE hH hall hrow
   go_wp2_with fail
   go_ret
   exact ⟨rfl,hbw⟩
end Go.Proofs.YtbdpghjegachaaaGreatDoor

namespace Go.Proofs.YtbdpghjegachaaaGreatDoor
open Go.RowKit Go.Shelf
set_option maxRecDepth 100000
set_option maxHeartbeats 4000000

def pts (t : ByteArray) (l : List Ms) (a : Nat) : List Int := Hy.ptV Hy.PP Hy.PX (wdB t l a (wn l a))
def mkN (pd : List Bool) (a : Nat) (ps : List Int) : Nat → List Bool
 | 0 => pd
 | k + 1 => (mkN pd a ps k).set (a + (ps.getD k 0).toNat) true
theorem mkN_len (pd : List Bool) (a : Nat) (ps : List Int) : ∀ k,(mkN pd a ps k).length = pd.length
 | 0 => rfl
 | k + 1 => by show ((mkN pd a ps k).set _ _).length = _; rw [List.length_set,mkN_len pd a ps k]
def mkA (t : ByteArray) (l : List Ms) (pd : List Bool) (a : Nat) : List Bool := mkN pd a (pts t l a) (pts t l a).length
def partG (t : ByteArray) (l : List Ms) : Nat → Nat → List Bool → List Bool
 | 0,_,pd => pd
 | n + 1,a,pd => if a < l.length then partG t l n (a + max (wn l a) 1) (mkA t l pd a) else pd
def partL (t : ByteArray) (l : List Ms) (pd : List Bool) : List Bool := partG t l l.length 0 pd
theorem wnF_le (l : List Ms) (a : Nat) : ∀ n j,wnF l a n j ≤ j + n
 | 0,j => Nat.le_refl _
 | n + 1,j => by
  unfold wnF
  split
  ·have := wnF_le l a n (j + 1); omega
  ·omega
theorem wn_le {l : List Ms} {a : Nat} (h : a ≤ l.length) : a + wn l a ≤ l.length := by
 have := wnF_le l a (l.length - a) 0
 unfold wn; omega
theorem partG_len (t : ByteArray) (l : List Ms) : ∀ n a pd,(partG t l n a pd).length = pd.length
 | 0,_,_ => rfl
 | n + 1,a,pd => by
  unfold partG
  split
  ·rw [partG_len t l n]; unfold mkA; rw [mkN_len]
  ·rfl
def bcells (pd : List Bool) : Array Value := (pd.map Value.bool).toArray
theorem bcells_at {pd : List Bool} {i : Nat} (h : i < pd.length) : (bcells pd)[i]? = some (.bool pd[i]) := by unfold bcells; simp [h]
theorem bcells_set (pd : List Bool) (i : Nat) (x : Bool) : (bcells pd).setIfInBounds i (.bool x) = bcells (pd.set i x) := by
 unfold bcells
 apply Array.ext'
 rw [Array.toList_setIfInBounds,List.map_set]
theorem bools_of {W : World} {P n c : Nat} {pd : List Bool} (h : Hy.Blk W P (bcells pd) 4) (hn : n = pd.length) (hc : n ≤ c) : BoolsAt W (.slice (some ⟨P,0,none⟩) n c) pd := by
 subst hn
 refine ⟨⟨_,_,rfl,.inr ⟨P,0,rfl,h.lt,fun i hi j u hu => ?_⟩⟩,fun _ _ _ e => by cases e; exact hc⟩
 cases j with
 | zero =>
  simp at hu
  subst hu
  rw [h.cell]
  simpa using bcells_at hi
 | succ j => simp at hu
theorem rec_turns {α : Type} {k : Nat} {f : α → List Value} {W W' : World} {X : Nat → Prop} {v : Value} {rs : List α} (h : RecAt k f W v rs) (ht : Turns X W W') (hx : ∀ b o n c,v = .slice (some ⟨b,o,none⟩) n c → ¬ X b) : RecAt k f W' v rs := by
 have hle := h.le
 obtain ⟨a,cap,rfl,h2⟩ := h.ex
 refine ⟨⟨a,cap,rfl,?_⟩,hle⟩
 rcases h2 with h2 | ⟨b,o,rfl,hlt,hc⟩
 ·exact .inl h2
 ·refine .inr ⟨b,o,rfl,Nat.lt_of_lt_of_le hlt ht.size,fun i hi j u hu => ?_⟩
  rw [World.cell?_of_block (ht.block b hlt (hx b o _ _ rfl))]
  exact hc i hi j u hu

structure PSt (w : World) (P hb base em M : Nat) (N : Hy.Ns) (V : Hy.Vs) (b : Bod) (pd : List Bool) (W : World) : Prop where
 tu : Turns (fun k => k = P) w W
 bl : Hy.Blk W P (bcells pd) 4
 bx : W.heap[w.heap.size]? = some (.cells (bodC b) 171 (0,0))
 hy : Hy.HyphAt W base hb (Hy.trie Hy.PP) (Hy.exE Hy.PX) N em M V
theorem PSt.step {w : World} {P hb base em M : Nat} {N : Hy.Ns} {V : Hy.Vs} {b : Bod} {pd : List Bool} {W W' : World} (h : PSt w P hb base em M N V b pd W) (hW : Below W.heap.size W W') : PSt w P hb base em M N V b pd W' :=
 ⟨h.tu.trans (turns_all hW),h.bl.turns (Turns.of_below hW) (fun h => h),(hW.block _ (Array.getElem?_eq_some_iff.1 h.bx).1).trans h.bx,h.hy.below hW⟩
theorem PSt.set {w : World} {P hb base em M : Nat} {N : Hy.Ns} {V : Hy.Vs} {b : Bod} {pd : List Bool} {W : World} (h : PSt w P hb base em M N V b pd W) (hP : P < w.heap.size) (hb0 : w.heap.size ≤ base) (i : Nat) : PSt w P hb base em M N V b (pd.set i true) (W.setCell ⟨P,i,none⟩ (.bool true)) := by
 have ht : Turns (fun k => k = P) W (W.setCell ⟨P,i,none⟩ (.bool true)) := Turns.setCell (X := fun k => k = P) W (p := ⟨P,i,none⟩) rfl _
 refine ⟨h.tu.trans ht,?_,(ht.block _ (Array.getElem?_eq_some_iff.1 h.bx).1 (by omega)).trans h.bx,h.hy.turns ht ?_⟩
 ·have := h.bl.set i (.bool true)
  rwa [bcells_set] at this
 ·rintro k rfl hk
  have := h.hy.young k hk
  omega
theorem PSt.bod {w : World} {P hb base em M : Nat} {N : Hy.Ns} {V : Hy.Vs} {b : Bod} {pd : List Bool} {W : World} (h : PSt w P hb base em M N V b pd W) (hA : BodAt w b) (hn : pd.length = b.l.length) (hpv : b.pv = .slice (some ⟨P,0,none⟩) b.l.length b.l.length) (hne : ∀ g o n c,b.mv = .slice (some ⟨g,o,none⟩) n c → g ≠ P) :
  BodAt W ⟨b.t,b.mv,b.pv,b.l,pd⟩ :=
 ⟨rec_turns hA.ms h.tu (fun g o n c e => hne g o n c e),by show BoolsAt W b.pv pd; rw [hpv]; exact bools_of h.bl hn.symm (Nat.le_refl _),hn,hA.few,hA.fit⟩

theorem part_any (b : Bod) (P : Nat) (w : World) (hA : BodAt w b) (ht : Hy.Tab w) (hP : Hy.Blk w P (bcells b.pd) 4) (hpv : b.pv = .slice (some ⟨P,0,none⟩) b.l.length b.l.length) (hne : ∀ g o n c,b.mv = .slice (some ⟨g,o,none⟩) n c → g ≠ P) :
  Calls Tryz.prog 128 #[.agg (bodC b)] w fun e w' => (∃ v,e = .returned v) ∧ Turns (fun k => k = P) w w' ∧ Hy.Blk w' P (bcells (partL b.t b.l b.pd)) 4 := by
 have hB0 := (Below.refl w.heap.size w).alloc (Nat.le_refl _) (.cells (bodC b) 171)
 have hpl := Hy.plain_any (w.alloc (.cells (bodC b) 171)) (ht.below hB0)
 have hs0 : (w.alloc (.cells (bodC b) 171)).heap.size = w.heap.size + 1 := World.size_alloc _ _
 have hPl := hP.lt
 have hst : Hid (∀ w',Below (w.alloc (.cells (bodC b) 171)).heap.size (w.alloc (.cells (bodC b) 171)) w' → ∀ hb N em M V,Hy.HyphAt w' (w.alloc (.cells (bodC b) 171)).heap.size hb (Hy.trie Hy.PP) (Hy.exE Hy.PX) N em M V → PSt w P hb (w.heap.size + 1) em M N V b b.pd w') := fun w' hW hb N em M V h => by
  have hB1 := hB0.trans (hW.mono hB0.size)
  rw [hs0] at h
  exact ⟨turns_all hB1,hP.turns (Turns.of_below hB1) (fun h => h),(hW.block _ (by omega)).trans (heap_new w _),h⟩
 have hwd : Hid (∀ i,i < b.l.length → ∀ hb em M N V pd W,pd.length = b.l.length → PSt w P hb (w.heap.size + 1) em M N V b pd W → Calls Tryz.prog 146 #[.agg (bodC b),.int .i64 i] W fun e w' => e = .returned (.string ⟨(wdB b.t b.l i (wn b.l i)).toArray⟩) ∧ PSt w P hb (w.heap.size + 1) em M N V b pd w') := fun i hi hb em M N V pd W hn h => by
  refine (word_any ⟨b.t,b.mv,b.pv,b.l,pd⟩ i W (h.bod hA hn hpv hne) hi).mono ?_
  rintro e w' ⟨rfl,hb'⟩
  exact ⟨rfl,h.step hb'⟩
 have hpo : Hid (∀ i hb em M N V pd W,PSt w P hb (w.heap.size + 1) em M N V b pd W → Calls Tryz.prog 147 #[.pointer (some ⟨hb,0,none⟩),.string ⟨(wdB b.t b.l i (wn b.l i)).toArray⟩] W fun e w' => ∃ v er,e = .returned (.tuple #[v,.int .i64 er]) ∧ PSt w P hb (w.heap.size + 1) em M N V b pd w' ∧ Hy.IntsAt w' v (pts b.t b.l i) ∧ ∀ g o n c,v = .slice (some ⟨g,o,none⟩) n c → w.heap.size ≤ g) := fun i hb em M N V pd W h => by
  refine (Hy.points_any h.hy ⟨(wdB b.t b.l i (wn b.l i)).toArray⟩).mono ?_
  rintro e w' ⟨v,rfl,hb',hr⟩
  rw [Hy.ptR_val Hy.good_P] at hr
  have e : Hy.ptV Hy.PP Hy.PX (Hy.bs ⟨(wdB b.t b.l i (wn b.l i)).toArray⟩) = pts b.t b.l i := by unfold pts Hy.bs; simp
  rw [e] at hr
  refine ⟨v,_,rfl,h.step hb',Hy.ints_of_row hr,fun g o n c hv => ?_⟩
  have := (hr.lt g (by rw [hv]; rfl)).1
  have := h.tu.size
  omega
 have hres : Hid (∀ n a pd,b.l.length ≤ a → partG b.t b.l n a pd = pd) := fun n a pd h => by
  cases n
  ·rfl
  ·exact if_neg (by omega)
 have hgo : Hid (∀ n a pd,a < b.l.length → partG b.t b.l (n + 1) a pd = partG b.t b.l n (a + max (wn b.l a) 1) (mkA b.t b.l pd a)) := fun n a pd h => if_pos h
 have hfew := hA.few
 have hpdl := hA.len
 obtain ⟨am,cm,hmv,-⟩ := hA.ms.ex
 have hR : Hid (partG b.t b.l b.l.length 0 b.pd = partL b.t b.l b.pd) := rfl
 generalize partL b.t b.l b.pd = R at *
 have hbC : bodC b = #[.string b.t,.slice am b.l.length cm,.slice (some ⟨P,0,none⟩) b.l.length b.l.length] := by unfold bodC; rw [hmv,hpv]
 have hcell : Hid (∀ hb em M N V pd W,PSt w P hb (w.heap.size + 1) em M N V b pd W → W.cell? ⟨w.heap.size,0,none⟩ = some (.string b.t) ∧ W.cell? ⟨w.heap.size,1,none⟩ = some (.slice am b.l.length cm) ∧ W.cell? ⟨w.heap.size,2,none⟩ = some (.slice (some ⟨P,0,none⟩) b.l.length b.l.length)) := fun hb em M N V pd W h => by
  have h1 := h.bx
  rw [hbC] at h1
  exact ⟨by rw [Lib.cell_of_heap h1]; rfl,by rw [Lib.cell_of_heap h1]; rfl,by rw [Lib.cell_of_heap h1]; rfl⟩
 rw [hbC] at hpl hwd hB0 hst ⊢
 have hplH : Hid (Calls Tryz.prog 145 #[] (w.alloc (.cells #[.string b.t,.slice am b.l.length cm,.slice (some ⟨P,0,none⟩) b.l.length b.l.length] 171)) fun e w' => Below (w.alloc (.cells #[.string b.t,.slice am b.l.length cm,.slice (some ⟨P,0,none⟩) b.l.length b.l.length] 171)).heap.size (w.alloc (.cells #[.string b.t,.slice am b.l.length cm,.slice (some ⟨P,0,none⟩) b.l.length b.l.length] 171)) w' ∧ ∃ hb N em M V,e = .returned (.pointer (some ⟨hb,0,none⟩)) ∧ Hy.HyphAt w' (w.alloc (.cells #[.string b.t,.slice am b.l.length cm,.slice (some ⟨P,0,none⟩) b.l.length b.l.length] 171)).heap.size hb (Hy.trie Hy.PP) (Hy.exE Hy.PX) N em M V) := hpl
 have hpin : Hid (∀ a x,x ∈ pts b.t b.l a → 0 ≤ x ∧ x < wn b.l a) := fun a x h => by
  have := Hy.pt_in h
  rwa [wdB_len] at this
 have hpfew : Hid (∀ a,(pts b.t b.l a).length ≤ 64) := fun a => Hy.pt_few _
 have hwn : Hid (∀ a,a ≤ b.l.length → a + wn b.l a ≤ b.l.length) := fun a h => wn_le h
 clear hpl hA ht hP hpv hne hbC hB0 hs0
 go_enter Tryz.func128,Tryz.ntmps128
 go_wp2_with (go_at_call 145; refine hplH.out.mono ?_; rintro e w2 ⟨hb2,hbk,N,em,M,V,rfl,hH⟩; have hp2 := hst.out w2 hb2 hbk N em M V hH)
 clear hst hplH hH hb2
 have hp3 : Hid (PSt w P hbk (w.heap.size + 1) em M N V b b.pd w2) := hp2
 clear hp2
 go_loopw [3] (fun i wr => ∃ (a fuel : Nat) (pd : List Bool),a ≤ b.l.length ∧ i = .int .i64 a ∧ Hid (b.l.length ≤ a + fuel ∧ pd.length = b.l.length ∧ PSt w P hbk (w.heap.size + 1) em M N V b pd wr ∧ partG b.t b.l fuel a pd = R)) (fun i _ => b.l.length - (intOf i).toNat)
 case atStart => exact ⟨0,b.l.length,b.pd,by omega,rfl,by omega,hpdl,hp3.out,hR.out⟩
 case round =>
  obtain ⟨a,fuel,pd,ha,rfl,hH⟩ := hrel
  obtain ⟨hfu,hpl,hps,hpg⟩ := hH.out
  obtain ⟨c0,c1,c2⟩ := hcell.out _ _ _ _ _ _ _ hps
  by_cases hlt : a < b.l.length
  ·have hlt' : (a : Int) < b.l.length := by omega
   obtain ⟨fu,rfl⟩ : ∃ fu,fuel = fu + 1 := ⟨fuel - 1,by omega⟩
   have hpg2 : Hid (partG b.t b.l fu (a + max (wn b.l a) 1) (mkA b.t b.l pd a) = R) := by
    show _ = R
    rw [← hgo.out fu a pd hlt]; exact hpg
   have hw0 := hwd.out a hlt hbk em M N V pd wr hpl hps
   have hp0 : Hid (∀ W,PSt w P hbk (w.heap.size + 1) em M N V b pd W → Calls Tryz.prog 147 #[.pointer (some ⟨hbk,0,none⟩),.string ⟨(wdB b.t b.l a (wn b.l a)).toArray⟩] W fun e w' => ∃ v er,e = .returned (.tuple #[v,.int .i64 er]) ∧ PSt w P hbk (w.heap.size + 1) em M N V b pd w' ∧ Hy.IntsAt w' v (pts b.t b.l a) ∧ ∀ g o n c,v = .slice (some ⟨g,o,none⟩) n c → w.heap.size ≤ g) := fun W h => hpo.out a hbk em M N V pd W h
   obtain ⟨q,hq⟩ : ∃ q : ByteArray,(⟨(wdB b.t b.l a (wn b.l a)).toArray⟩ : ByteArray) = q := ⟨_,rfl⟩
   have hqs : Hid (q.size = wn b.l a) := by show q.size = _; rw [← hq]; show (wdB b.t b.l a (wn b.l a)).toArray.size = _; rw [List.size_toArray,wdB_len]
   rw [hq] at hw0 hp0
   have hw0' : Hid (Calls Tryz.prog 146 #[.agg #[.string b.t,.slice am b.l.length cm,.slice (some ⟨P,0,none⟩) b.l.length b.l.length],.int .i64 a] wr fun e w' => e = .returned (.string q) ∧ PSt w P hbk (w.heap.size + 1) em M N V b pd w') := hw0
   obtain ⟨ps,hpse⟩ : ∃ ps,pts b.t b.l a = ps := ⟨_,rfl⟩
   have hin : Hid (∀ x,x ∈ ps → 0 ≤ x ∧ x < wn b.l a) := fun x h => hpin.out a x (by rw [hpse]; exact h)
   have hfw : Hid (ps.length ≤ 64) := by show _ ≤ 64; rw [← hpse]; exact hpfew.out a
   have hmk : Hid (mkA b.t b.l pd a = mkN pd a ps ps.length) := by show _ = _; unfold mkA; rw [hpse]
   rw [hpse] at hp0
   have hwl := hwn.out a ha
   have hq4 : q.size ≤ 4096 := by have := hqs.out; omega
   clear hw0 hq hpse hH hpg hps hpo hwd hgo hres hR hpin hpfew hwn hp3
   go_wp2_with (first | (go_at_call 146; refine hw0'.out.mono ?_; rintro e w3 ⟨rfl,hs3⟩) | (go_at_call 147; refine (hp0.out _ hs3).mono ?_; rintro e w4 ⟨v,er,rfl,hs4,hi4,hg4⟩; obtain ⟨av,cv,rfl,-⟩ := hi4.ex))
   have hs5 : Hid (PSt w P hbk (w.heap.size + 1) em M N V b pd w4 ∧ Hy.IntsAt w4 (.slice av ps.length cv) ps) := ⟨hs4,hi4⟩
   have hg5 : Hid (∀ g o,av = some ⟨g,o,none⟩ → w.heap.size ≤ g) := fun g o e => hg4 g o _ _ (by rw [e])
   have hfw' : (ps.length : Int) ≤ 64 := by have := hfw.out; omega
   clear hs4 hi4 hg4 hs3 hw0' hp0
   go_loopw [26] (fun j wq => ∃ k : Nat,k ≤ ps.length ∧ j = .int .i64 k ∧ Hid (PSt w P hbk (w.heap.size + 1) em M N V b (mkN pd a ps k) wq ∧ Hy.IntsAt wq (.slice av ps.length cv) ps)) (fun j _ => ps.length - (intOf j).toNat)
   case atStart => exact ⟨0,by omega,rfl,hs5.out⟩
   case round =>
    obtain ⟨k,hk,rfl,hK⟩ := hrel
    obtain ⟨hk1,hk2⟩ := hK.out
    by_cases hkl : k < ps.length
    ·have hkl' : (k : Int) < ps.length := by omega
     obtain ⟨gb,go,hav,ci⟩ := Hy.int_cell hk2 hkl
     subst hav
     obtain ⟨d0,d1,d2⟩ := hcell.out _ _ _ _ _ _ _ hk1
     have hx := hin.out (ps[k]'hkl) (List.getElem_mem hkl)
     obtain ⟨x,hxe⟩ : ∃ x : Nat,ps[k]'hkl = (x : Int) := ⟨(ps[k]'hkl).toNat,by omega⟩
     have hgt : ps.getD k 0 = (x : Int) := by rw [List.getD_eq_getElem?_getD,List.getElem?_eq_getElem hkl]; exact hxe
     rw [hxe] at ci hx
     have hax : a + x < b.l.length := by omega
     have hax' : (a : Int) + x < b.l.length := by omega
     have hbl := hk1.bl
     have hml : (mkN pd a ps k).length = b.l.length := by rw [mkN_len]; exact hpl
     have cb : ∃ y,wr.cell? ⟨P,a + x,none⟩ = some (.bool y) := ⟨_,by rw [hbl.cell]; exact bcells_at (by omega)⟩
     obtain ⟨y,cb⟩ := cb
     have fb := hbl.free (a + x)
     have hnx : Hid (PSt w P hbk (w.heap.size + 1) em M N V b (mkN pd a ps (k + 1)) (wr.setCell ⟨P,a + x,none⟩ (.bool true)) ∧ Hy.IntsAt (wr.setCell ⟨P,a + x,none⟩ (.bool true)) (.slice (some ⟨gb,go,none⟩) ps.length cv) ps) := by
      refine ⟨?_,rec_turns hk2 (Turns.setCell (X := fun k => k = P) wr (p := ⟨P,a + x,none⟩) rfl _) (fun g o n c e => ?_)⟩
      ·show PSt w P hbk (w.heap.size + 1) em M N V b ((mkN pd a ps k).set (a + (ps.getD k 0).toNat) true) _
       rw [hgt,Int.toNat_natCast]
       exact hk1.set hPl (Nat.le_succ _) (a + x)
      ·cases e
       have := hg5.out gb go rfl
       omega
     clear hK hk1 hk2 hbl hml hgt hxe hcell hin hmk hpg2 hs5 hfw hg5
     go_wp2_with fail
     go_roundw
     case rel => exact ⟨k + 1,by omega,by simp,hnx⟩
     case measure => simp [intOf]; omega
    ·obtain rfl : k = ps.length := by omega
     have hge : ¬ (ps.length : Int) < ps.length := by omega
     have hk3 : Hid (PSt w P hbk (w.heap.size + 1) em M N V b (mkA b.t b.l pd a) wr) := by show PSt _ _ _ _ _ _ _ _ _ _ _; rw [hmk.out]; exact hk1
     have hml : Hid ((mkA b.t b.l pd a).length = b.l.length) := by show _ = _; rw [hmk.out,mkN_len]; exact hpl
     have hfu2 : Hid (b.l.length ≤ a + max (wn b.l a) 1 + fu) := by show _ ≤ _; omega
     by_cases hw0 : q.size = 0
     ·have e : max (wn b.l a) 1 = 1 := by rw [← hqs.out,hw0]; rfl
      rw [e] at hpg2 hfu2
      have hw1 : ¬ (1 : Int) ≤ q.size := by omega
      have hw2 : (q.size : Int) < 1 := by omega
      clear hK hk1 hk2 hcell hin hmk hs5 hfw hg5 hqs
      go_wp2_with fail
      go_roundw
      case rel => exact ⟨a + 1,fu,mkA b.t b.l pd a,by omega,by simp; omega,hfu2.out,hml.out,hk3.out,hpg2.out⟩
      case measure => simp [intOf]; omega
     ·have e : max (wn b.l a) 1 = q.size := by rw [← hqs.out]; omega
      rw [e] at hpg2 hfu2
      have hw1 : (1 : Int) ≤ q.size := by omega
      have hw2 : ¬ (q.size : Int) < 1 := by omega
      have hql : a + q.size ≤ b.l.length := by rw [hqs.out]; exact hwl
      clear hK hk1 hk2 hcell hin hmk hs5 hfw hg5 hqs
      go_wp2_with fail
      go_roundw
      case rel => exact ⟨a + q.size,fu,mkA b.t b.l pd a,by omega,by simp; omega,hfu2.out,hml.out,hk3.out,hpg2.out⟩
      case measure => simp [intOf]; omega
  ·have e := hres.out fuel a pd (by omega)
   rw [hpg] at e
   subst e
   have hge : ¬ (a : Int) < b.l.length := by omega
   have hfin : Hid (Turns (fun k => k = P) w wr ∧ Hy.Blk wr P (bcells R) 4) := ⟨hps.tu,hps.bl⟩
   clear hH hpg hps hpo hwd hgo hres hR hpin hpfew hwn hp3 hcell
   go_wp2_with fail
   go_end0
   exact ⟨⟨_,rfl⟩,hfin.out⟩
end Go.Proofs.YtbdpghjegachaaaGreatDoor
