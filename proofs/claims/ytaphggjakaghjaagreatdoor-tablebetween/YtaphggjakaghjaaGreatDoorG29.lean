/-
  What is proved here: columns, each a closure that knows where it stands.
  What is proved here: columns side by side.
  What is proved here: the region of Lay that tells of a line.
-/
import Derived.Test.YtaphggjakaghjaaGreatDoorG28
import Derived.Test.YtaphggjakaghjaaGreatDoorG1
import Derived.Test.YtaphggjakaghjaaGreatDoorG19
namespace Go.Proofs.YtaphggjakaghjaaGreatDoor
open Go.RowKit Go.Shelf
set_option maxRecDepth 100000
set_option maxHeartbeats 2000000

def roS (x w : Int) : Sl := ⟨x + 2,max (w - 4) 0⟩
structure CoAt (lo : Nat) (W : World) (v : Value) (x w : Int) : Prop where
 ex : ∃ g5 g2 g3 : Nat,v = .func (.func 59) #[] #[.pointer (some ⟨g5,0,none⟩),.pointer (some ⟨g2,0,none⟩),.pointer (some ⟨g3,0,none⟩)] ∧ (lo ≤ g5 ∧ lo ≤ g2 ∧ lo ≤ g3) ∧
  W.heap[g5]? = some (.cells (slL (roS x w)).toArray 98 (0,0)) ∧ W.heap[g2]? = some (.cells #[.int .i64 x] 3 (0,0)) ∧ W.heap[g3]? = some (.cells #[.int .i64 w] 3 (0,0))
theorem CoAt.turns {lo : Nat} {W W' : World} {X : Nat → Prop} {v : Value} {x w : Int} (h : CoAt lo W v x w) (ht : Turns X W W') (hX : ∀ k,X k → k < lo) : CoAt lo W' v x w := by
 obtain ⟨g5,g2,g3,rfl,⟨l5,l2,l3⟩,h1,h2,h3⟩ := h.ex
 exact ⟨g5,g2,g3,rfl,⟨l5,l2,l3⟩,(ht.block _ (Array.getElem?_eq_some_iff.1 h1).1 (fun e => by have := hX _ e; omega)).trans h1,(ht.block _ (Array.getElem?_eq_some_iff.1 h2).1 (fun e => by have := hX _ e; omega)).trans h2,(ht.block _ (Array.getElem?_eq_some_iff.1 h3).1 (fun e => by have := hX _ e; omega)).trans h3⟩
theorem CoAt.below {lo : Nat} {W W' : World} {v : Value} {x w : Int} (h : CoAt lo W v x w) {n : Nat} (hb : Below n W W') (hn : W.heap.size ≤ n) : CoAt lo W' v x w := by
 obtain ⟨g5,g2,g3,rfl,hl,h1,h2,h3⟩ := h.ex
 have l1 := (Array.getElem?_eq_some_iff.1 h1).1
 have l2 := (Array.getElem?_eq_some_iff.1 h2).1
 have l3 := (Array.getElem?_eq_some_iff.1 h3).1
 exact ⟨g5,g2,g3,rfl,hl,(hb.block _ (by omega)).trans h1,(hb.block _ (by omega)).trans h2,(hb.block _ (by omega)).trans h3⟩
theorem CoAt.lo {lo lo' : Nat} {W : World} {v : Value} {x w : Int} (h : CoAt lo W v x w) (hl : lo' ≤ lo) : CoAt lo' W v x w := by
 obtain ⟨g5,g2,g3,rfl,⟨l5,l2,l3⟩,h1,h2,h3⟩ := h.ex
 exact ⟨g5,g2,g3,rfl,⟨by omega,by omega,by omega⟩,h1,h2,h3⟩
theorem column_any (x c : Int) (hx : 0 ≤ x ∧ x ≤ 1000000) (hc : 0 ≤ c ∧ c ≤ 1000000) (w : World) : Calls Tryz.prog 45 #[.int .i64 x,.int .i64 c] w fun e w' => (∃ v,e = .returned v ∧ CoAt w.heap.size w' v x c) ∧ Below w.heap.size w w' := by
 have key : Hid (∀ m : Int,max (c - 4) 0 = m → CoAt w.heap.size (((w.alloc (.cells #[.int .i64 x] 3)).alloc (.cells #[.int .i64 c] 3)).alloc (.cells #[.int .i64 (x + 2),.int .i64 m] 98)) (.func (.func 59) #[] #[.pointer (some ⟨w.heap.size + 1 + 1,0,none⟩),.pointer (some ⟨w.heap.size,0,none⟩),.pointer (some ⟨w.heap.size + 1,0,none⟩)]) x c) := by
  rintro m rfl
  refine ⟨⟨_,_,_,rfl,⟨by omega,by omega,by omega⟩,?_,?_,?_⟩⟩
  ·have := World.alloc_heap_new ((w.alloc (.cells #[.int .i64 x] 3)).alloc (.cells #[.int .i64 c] 3)) (.cells (slL (roS x c)).toArray 98)
   rw [World.size_alloc,World.size_alloc] at this
   exact this
  ·exact (Below.heap_alloc _ _ _ (by simp; omega)).trans ((Below.heap_alloc _ _ _ (by simp)).trans (World.alloc_heap_new w _))
  ·exact (Below.heap_alloc _ _ _ (by simp)).trans (alloc2_heap w _ _)
 have hB : Hid (∀ a b d : Obj,Below w.heap.size w (((w.alloc a).alloc b).alloc d)) := fun a b d => by
  have h1 := (Below.refl w.heap.size w).alloc (Nat.le_refl _) a
  have h2 := h1.alloc h1.size b
  exact h2.alloc h2.size d
 go_enter Tryz.func45,Tryz.ntmps45
 go_wp2_with fail
 all_goals go_ret
 ·exact ⟨⟨_,rfl,key.out _ (by omega)⟩,hB.out _ _ _⟩
 ·exact ⟨⟨_,rfl,key.out _ (by omega)⟩,hB.out _ _ _⟩
end Go.Proofs.YtaphggjakaghjaaGreatDoor

namespace Go.Proofs.YtaphggjakaghjaaGreatDoor
open Go.RowKit Go.Shelf
set_option maxRecDepth 100000
set_option maxHeartbeats 4000000

def VBk (t : TypeId) (W : World) (g : Nat) (l : List Value) : Prop := W.heap[g]? = some (.cells l.toArray t (0,0))
theorem VBk.lt {t : TypeId} {W : World} {g : Nat} {l : List Value} (h : VBk t W g l) : g < W.heap.size := (Array.getElem?_eq_some_iff.1 h).1
theorem VBk.cell {t : TypeId} {W : World} {g : Nat} {l : List Value} (h : VBk t W g l) {k : Nat} (hk : k < l.length) : W.cell? ⟨g,k,none⟩ = some (l[k]'hk) ∧ W.frozen? ⟨g,k,none⟩ = false := by
 refine ⟨?_,Lib.frozen_of_heap h _⟩
 rw [Lib.cell_of_heap h]
 simp [hk]
theorem VBk.set {t : TypeId} {W : World} {g : Nat} {l : List Value} (h : VBk t W g l) (k : Nat) (x : Value) : VBk t (W.setCell ⟨g,k,none⟩ x) g (l.set k x) := by
 have := heap_setCell_same W g k l.toArray t x h
 unfold VBk
 rw [this]
 congr 2
 simp
theorem VBk.below {t : TypeId} {W W' : World} {g : Nat} {l : List Value} (h : VBk t W g l) {n : Nat} (hb : Below n W W') (hn : g < n) : VBk t W' g l := (hb.block g hn).trans h
theorem fill_set {α : Type} (d : List α) (z x : α) {n : Nat} (h : d.length < n) : (d ++ List.replicate (n - d.length) z).set d.length x = (d ++ [x]) ++ List.replicate (n - (d ++ [x]).length) z := by
 have e : n - d.length = (n - (d.length + 1)) + 1 := by omega
 rw [List.set_append_right _ _ (Nat.le_refl _),Nat.sub_self,e,List.replicate_succ,List.set_cons_zero,List.length_append,List.append_assoc]
 rfl
theorem fill_get {α : Type} (d : List α) (z : α) {n : Nat} (h : d.length < n) : ∃ hk : d.length < (d ++ List.replicate (n - d.length) z).length,(d ++ List.replicate (n - d.length) z)[d.length] = z := by
 refine ⟨by simp; omega,?_⟩
 rw [List.getElem_append_right (Nat.le_refl _)]
 simp

structure SdI (lo : Nat) (w : World) (T : Nat) (ws : List Int) (k : Nat) (W : World) : Prop where
 low : Below w.heap.size w W
 ex : ∃ d : List Value,d.length = k ∧ VBk 82 W T (d ++ List.replicate (ws.length - d.length) .nilFunc) ∧ ∀ i,i < k → CoAt lo W (d.getD i .nilFunc) (smI ws i) (ws.getD i 0)
def nilFs (n : Nat) : List Value := List.replicate n .nilFunc
theorem madeF (n : Nat) : madeCells #[.nilFunc] n = (nilFs n).toArray := by
 apply Array.ext
 ·simp [madeCells,nilFs]
 ·intro i h1 h2
  simp [madeCells,nilFs,Nat.mod_one]
theorem make59 {n : Nat} (h : n ≤ 400) (W : World) : (Instr.makeSlice 59 (.int .i64 (n : Int)) (.int .i64 (n : Int))).run Tryz.prog W = .ok (.slice (some ⟨W.heap.size,0,none⟩) n n) (W.alloc (.cells (nilFs n).toArray 82)) := by
 obtain ⟨i9,hi⟩ := Option.isSome_iff_exists.1 (show (Tryz.prog.info? 82).isSome = true by kernel_rfl)
 have hz0 : i9.zero = some .nilFunc := by
  have h : (Tryz.prog.info? 82).map (·.zero) = some (some .nilFunc) := by kernel_rfl
  rw [hi] at h; simpa using h
 have hz1 : i9.size = 1 := by
  have h : (Tryz.prog.info? 82).map (·.size) = some 1 := by kernel_rfl
  rw [hi] at h; simpa using h
 have hz2 : i9.bytes = 8 := by
  have h : (Tryz.prog.info? 82).map (·.bytes) = some 8 := by kernel_rfl
  rw [hi] at h; simpa using h
 have := run_makeSlice (P := Tryz.prog) (w := W) 59 82 i9 _ Tryz.underlying59 hi hz0 .i64 .i64 n n (by omega) (by omega) (by rw [hz1]; omega) (by rw [hz2]; omega) (by omega)
 rw [hz1,Int.toNat_natCast,Nat.mul_one] at this
 rw [← madeF]
 exact this
theorem SdI.start (w w1 : World) (ws : List Int) (h : Below w.heap.size w w1) : SdI (w1.heap.size + 1) w w1.heap.size ws 0 (w1.alloc (.cells (nilFs ws.length).toArray 82)) :=
 ⟨h.alloc h.size _,[],rfl,World.alloc_heap_new w1 (.cells (nilFs ws.length).toArray 82),fun i hi => by omega⟩
theorem SdI.step {lo : Nat} {w : World} {T : Nat} {ws : List Int} {k : Nat} {W : World} (h : SdI lo w T ws k W) (hk : k < ws.length) (hT : w.heap.size ≤ T) (hTl : T < lo) {W2 : World} (hb : Below W.heap.size W W2) (hlo : lo ≤ W.heap.size) (_hw : W.heap.size ≤ W2.heap.size) :
  W2.cell? ⟨T,k,none⟩ = some .nilFunc ∧ W2.frozen? ⟨T,k,none⟩ = false ∧ ∀ u,CoAt W.heap.size W2 u (smI ws k) (ws.getD k 0) → SdI lo w T ws (k + 1) (W2.setCell ⟨T,k,none⟩ u) := by
 obtain ⟨d,rfl,hv,hc⟩ := h.ex
 have hv2 := hv.below hb hv.lt
 obtain ⟨hk1,hk2⟩ := fill_get d Value.nilFunc hk
 have hcl := hv2.cell hk1
 rw [hk2] at hcl
 refine ⟨hcl.1,hcl.2,fun u hu => ⟨?_,d ++ [u],by simp,?_,fun i hi => ?_⟩⟩
 ·exact (h.low.trans (hb.mono h.low.size)).setCell (p := ⟨T,d.length,none⟩) hT _
 ·rw [← fill_set d _ _ hk]
  exact hv2.set _ _
 ·have ht := Turns.setCell (X := fun j => j = T) W2 (p := ⟨T,d.length,none⟩) rfl u
  by_cases e : i = d.length
  ·subst e
   rw [List.getD_eq_getElem?_getD,List.getElem?_append_right (Nat.le_refl _)]
   simp only [Nat.sub_self,List.getElem?_cons_zero,Option.getD_some]
   exact (hu.lo hlo).turns ht (fun j hj => by omega)
  ·rw [List.getD_eq_getElem?_getD,List.getElem?_append_left (by omega),← List.getD_eq_getElem?_getD]
   exact ((hc i (by omega)).below hb (Nat.le_refl _)).turns ht (fun j hj => by omega)
theorem run_store_func (a : Addr) (x : Fn) (y z : Array Value) (m : Mode) (W : World) : (store a (.func x y z) m).run Tryz.prog W = stored Tryz.prog W a (.func x y z) m := run_store Tryz.prog W a _ m rfl
attribute [local go_sem] run_store_func
def SdEnd (ws : List Int) (w : World) (e : Ending) (w' : World) : Prop := ∃ lo g,w.heap.size ≤ g ∧ e = .returned (.slice (some ⟨g,0,none⟩) ws.length ws.length) ∧ SdI lo w g ws ws.length w'
theorem side_any (b : Nat) (ws : List Int) (hn : ws.length ≤ 8) (hr : ∀ k,k < ws.length → 0 ≤ ws.getD k 0 ∧ ws.getD k 0 ≤ 4095) (w : World) (hI : IBk w b ws) : Calls Tryz.prog 27 #[.slice (some ⟨b,0,none⟩) ws.length ws.length] w (SdEnd ws w) := by
 have hco : Hid (∀ (x c : Int) (w : World),0 ≤ x ∧ x ≤ 1000000 → 0 ≤ c ∧ c ≤ 1000000 → Calls Tryz.prog 45 #[.int .i64 x,.int .i64 c] w fun e w' => (∃ v,e = .returned v ∧ CoAt w.heap.size w' v x c) ∧ Below w.heap.size w w') := fun x c w h1 h2 => column_any x c h1 h2 w
 have hsm := smI_rng (l := ws) (n := ws.length) (b := 4095) hr
 have hb0 : Hid (IBk w b ws ∧ b < w.heap.size) := ⟨hI,hI.lt⟩
 have hend : Hid (∀ W,SdI (w.heap.size + 1) w w.heap.size ws ws.length W → SdEnd ws w (.returned (.slice (some ⟨w.heap.size,0,none⟩) ws.length ws.length)) W) := fun W h => ⟨_,_,Nat.le_refl _,rfl,h⟩
 have h0 := SdI.start w w ws (Below.refl _ _)
 have hmk := make59 (n := ws.length) (by omega) w
 generalize SdEnd ws w = E at *
 have hrh : Hid (∀ k,k < ws.length → 0 ≤ ws.getD k 0 ∧ ws.getD k 0 ≤ 4095) := hr
 have hsh : Hid (∀ k,k ≤ ws.length → 0 ≤ smI ws k ∧ smI ws k ≤ 4095 * (k : Int)) := hsm
 clear hI hr hsm
 go_enter Tryz.func27,Tryz.ntmps27
 go_wp2_with fail
 have hz1 : w.heap.size + 1 ≤ (w.alloc (.cells (nilFs ws.length).toArray 82)).heap.size := by simp
 generalize w.alloc (.cells (nilFs ws.length).toArray 82) = w1 at *
 go_loopw [4,12] (fun v4 v12 wr => ∃ k : Nat,k ≤ ws.length ∧ v12 = .int .i64 (k : Int) ∧ v4 = .int .i64 (smI ws k) ∧ Hid (SdI (w.heap.size + 1) w w.heap.size ws k wr)) (fun _ v12 _ => ws.length - (intOf v12).toNat)
 case atStart => exact ⟨0,by omega,rfl,rfl,h0⟩
 case round =>
  obtain ⟨k,hk,rfl,rfl,hS⟩ := hrel
  clear h0 hmk hz1
  by_cases hlt : k < ws.length
  ·have hlt' : (k : Int) < (ws.length : Int) := by omega
   have hi1 := hb0.out.1.below hS.out.low hb0.out.2
   have hc1 := (hi1.cell hlt).1
   have hg : ws[k] = ws.getD k 0 := by rw [List.getD_eq_getElem?_getD,List.getElem?_eq_getElem hlt]; rfl
   rw [hg] at hc1
   have r1 := hrh.out k hlt
   have r2 := hsh.out k (by omega)
   have hcall := hco.out (smI ws k) (ws.getD k 0) wr ⟨by omega,by omega⟩ ⟨by omega,by omega⟩
   have hlo : w.heap.size + 1 ≤ wr.heap.size := by
    obtain ⟨d,_,hv,_⟩ := hS.out.ex
    exact hv.lt
   have hst : Hid (∀ W2,Below wr.heap.size wr W2 → W2.cell? ⟨w.heap.size,k,none⟩ = some .nilFunc ∧ W2.frozen? ⟨w.heap.size,k,none⟩ = false ∧ ∀ u,CoAt wr.heap.size W2 u (smI ws k) (ws.getD k 0) → SdI (w.heap.size + 1) w w.heap.size ws (k + 1) (W2.setCell ⟨w.heap.size,k,none⟩ u)) := fun W2 hb => hS.out.step hlt (Nat.le_refl _) (Nat.lt_succ_self _) hb hlo hb.size
   have hnx : Hid (smI ws (k + 1) = smI ws k + ws.getD k 0) := smI_succ ws k
   clear hS hi1 hg hend hco
   generalize ws.getD k 0 = c at *
   generalize smI ws k = x at *
   go_wp2_with (first | (go_at_call 45; refine hcall.mono ?_; rintro e w2 ⟨⟨u,rfl,hu⟩,hb2⟩; obtain ⟨q1,q2,q3⟩ := hst.out w2 hb2; have q3h : Hid (SdI (w.heap.size + 1) w w.heap.size ws (k + 1) (w2.setCell ⟨w.heap.size,k,none⟩ u)) := q3 u hu; obtain ⟨g5,g2,g3,rfl,-⟩ := hu.ex; clear hu hb2 hst hcall hc1 q3))
   go_roundw
   case rel => exact ⟨k + 1,by omega,by simp,by rw [hnx.out],q3h⟩
   case measure => simp [intOf]; omega
  ·have hkm : k = ws.length := by omega
   subst hkm
   have hge : ¬ ((ws.length : Nat) : Int) < (ws.length : Int) := by omega
   go_wp2_with fail
   exact hend.out _ hS.out
end Go.Proofs.YtaphggjakaghjaaGreatDoor

namespace Go.Proofs.YtaphggjakaghjaaGreatDoor
open Go.RowKit Go.Shelf
set_option maxRecDepth 100000
set_option maxHeartbeats 1000000

def fgI (L : List It) (p : Pc) (s : Sl) (lo : Bool) : Int := (if wdB L p s then 1 else 0) + (if lo then 2 else 0)
structure LsS (w0 : World) (P Z : Nat) (p : Pc) (s : Sl) (W : World) : Prop where
 low : Below w0.heap.size w0 W
 bp : W.heap[P]? = some (.cells (pcL p).toArray 122 (0,0))
 bs : W.heap[Z]? = some (.cells (slL s).toArray 98 (0,0))
section
variable {P Z : Nat} {p : Pc} {s : Sl} {w0 W W' : World}
theorem LsS.below (h : LsS w0 P Z p s W) (hb : Below W.heap.size W W') : LsS w0 P Z p s W' :=
 ⟨h.low.trans (hb.mono h.low.size),(hb.block _ (Array.getElem?_eq_some_iff.1 h.bp).1).trans h.bp,(hb.block _ (Array.getElem?_eq_some_iff.1 h.bs).1).trans h.bs⟩
theorem LsS.turn (h : LsS w0 P Z p s W) (hP : w0.heap.size < P) (hZ : w0.heap.size < Z) (o : Nat) (cs : List Value) : LsS w0 P Z p s (W.setCells w0.heap.size o cs) := by
 have hT := turns_setCells (X := fun j => j = w0.heap.size) rfl cs o W
 exact ⟨h.low.trans (hT.below h.low.size (fun j hj => by omega)),(hT.block _ (Array.getElem?_eq_some_iff.1 h.bp).1 (by omega)).trans h.bp,(hT.block _ (Array.getElem?_eq_some_iff.1 h.bs).1 (by omega)).trans h.bs⟩
theorem LsS.q0 (h : LsS w0 P Z p s W) : W.cell? ⟨Z,0,none⟩ = some (.int .i64 s.x) := (Lib.cell_of_heap h.bs _).trans rfl
theorem LsS.q1 (h : LsS w0 P Z p s W) : W.cell? ⟨Z,1,none⟩ = some (.int .i64 s.w) := (Lib.cell_of_heap h.bs _).trans rfl
theorem LsS.p4 (h : LsS w0 P Z p s W) : W.cell? ⟨P,4,none⟩ = some (.int .i64 p.nt) := (Lib.cell_of_heap h.bp _).trans rfl
theorem LsS.p3 (h : LsS w0 P Z p s W) : W.cell? ⟨P,3,none⟩ = some (.bool p.hy) := (Lib.cell_of_heap h.bp _).trans rfl
end
def opp11_13_0 (ps : String) : Oper := ⟨some 64,.move (.tmp 14),44,ps,#[],none⟩
def opp11_13_1 (ps : String) : Oper := ⟨some 65,.move (.tmp 16),3,ps,#[],none⟩
def opp11_13_2 (ps : String) : Oper := ⟨some 66,.move (.tmp 15),3,ps,#[],none⟩
def opp11_13_3 (ps : String) : Oper := ⟨some 67,.move (.tmp 19),3,ps,#[],none⟩
def opp11_13_4 (ps : String) : Oper := ⟨some 68,.fieldAddr 98 (.tmp 18) 0,0,ps,#[],none⟩
def opp11_13_5 (ps : String) : Oper := ⟨some 69,.load 3 (.tmp 68),3,ps,#[⟨4,.data⟩],none⟩
def opp11_13_6 (ps : String) : Oper := ⟨some 70,.fieldAddr 98 (.tmp 18) 1,0,ps,#[],none⟩
def opp11_13_7 (ps : String) : Oper := ⟨some 71,.load 3 (.tmp 70),3,ps,#[⟨6,.data⟩],none⟩
def opp11_13_8 (ps : String) : Oper := ⟨some 72,.fieldAddr 122 (.tmp 17) 4,0,ps,#[],none⟩
def opp11_13_9 (ps : String) : Oper := ⟨some 73,.load 3 (.tmp 72),3,ps,#[⟨8,.data⟩],none⟩
def opp11_13_10 (ps : String) : Oper := ⟨some 74,.fieldAddr 122 (.tmp 17) 3,0,ps,#[],none⟩
def opp11_13_11 (ps : String) : Oper := ⟨some 75,.load 4 (.tmp 74),4,ps,#[⟨10,.data⟩],none⟩
def opp11_13_12 (ps : String) : Oper := ⟨some 76,.move (.tmp 11),111,ps,#[],none⟩
def opp11_13_13 (ps : String) : Oper := ⟨some 77,.load 122 (.tmp 17),122,ps,#[],none⟩
def opp11_13_14 (ps : String) : Oper := ⟨some 78,.load 98 (.tmp 18),98,ps,#[],none⟩
def opp11_13_15 (ps : String) : Oper := ⟨some 79,.call ⟨.value (.func 78),#[.tmp 76,.tmp 77,.tmp 78],#[111,122,98]⟩,4,ps,#[⟨12,.data⟩,⟨13,.data⟩,⟨14,.data⟩],none⟩
def opp11_13_16 (ps : String) : Oper := ⟨some 80,.move (.tmp 13),4,ps,#[],none⟩
def opp11_13_17 (ps : String) : Oper := ⟨some 81,.call ⟨.value (.func 77),#[.tmp 79,.tmp 80],#[4,4]⟩,3,ps,#[⟨15,.data⟩,⟨16,.data⟩,⟨15,.chain⟩],none⟩
def opp11_13_18 (ps : String) : Oper := ⟨some 82,.build 55 #[(0,.tmp 66),(1,.tmp 67),(2,.tmp 69),(3,.tmp 71),(4,.tmp 73),(5,.tmp 75),(6,.tmp 81)],55,ps,#[⟨2,.data⟩,⟨3,.data⟩,⟨5,.data⟩,⟨7,.data⟩,⟨9,.data⟩,⟨11,.data⟩,⟨17,.data⟩],none⟩
def opp11_13_19 (ps : String) : Oper := ⟨some 83,.indexAddr 44 (.tmp 64) (.tmp 65),0,ps,#[⟨0,.data⟩,⟨1,.data⟩,⟨0,.phase⟩,⟨1,.phase⟩,⟨2,.phase⟩,⟨3,.phase⟩,⟨4,.phase⟩,⟨5,.phase⟩,⟨6,.phase⟩,⟨7,.phase⟩,⟨8,.phase⟩,⟨9,.phase⟩,⟨10,.phase⟩,⟨11,.phase⟩,⟨12,.phase⟩,⟨13,.phase⟩,⟨14,.phase⟩,⟨15,.phase⟩,⟨16,.phase⟩,⟨17,.phase⟩,⟨18,.phase⟩],none⟩
def opp11_13_20 (ps : String) : Oper := ⟨none,.store 55 (.tmp 83) (.tmp 82),0,ps,#[⟨19,.data⟩,⟨18,.data⟩,⟨17,.chain⟩,⟨0,.phase⟩,⟨1,.phase⟩,⟨2,.phase⟩,⟨3,.phase⟩,⟨4,.phase⟩,⟨5,.phase⟩,⟨6,.phase⟩,⟨7,.phase⟩,⟨8,.phase⟩,⟨9,.phase⟩,⟨10,.phase⟩,⟨11,.phase⟩,⟨12,.phase⟩,⟨13,.phase⟩,⟨14,.phase⟩,⟨15,.phase⟩,⟨16,.phase⟩,⟨17,.phase⟩,⟨18,.phase⟩],none⟩
def opp11_13 (ps : String) : Array Oper := #[opp11_13_0 ps,opp11_13_1 ps,opp11_13_2 ps,opp11_13_3 ps,opp11_13_4 ps,opp11_13_5 ps,opp11_13_6 ps,opp11_13_7 ps,opp11_13_8 ps,opp11_13_9 ps,opp11_13_10 ps,opp11_13_11 ps,opp11_13_12 ps,opp11_13_13 ps,opp11_13_14 ps,opp11_13_15 ps,opp11_13_16 ps,opp11_13_17 ps,opp11_13_18 ps,opp11_13_19 ps,opp11_13_20 ps]

theorem ly_r13 (Q : Exit → Act → World → Prop) (hQ : ∀ c x (n : Nat) v w,Q (.panic c) (x.put (some n) v) w → Q (.panic c) x w) (id : Nat) (ps : String) {v0 v1 v2 v3 v4 v5 v6 v7 v8 v9 xa xb xc xd xe xf xg xh xi xj xk xl xm xn xo xp xq xr xt xu xv xw xx xy xz xA xB xC xD xE xF xG xH xI xJ xK xL xM xN xO xP xQ xR xS xT xU xV xW xX xY xZ ya yb yc yd ye yf yg yh yi yj yk yl ym yn yo yp yq yr : Value} (w0 : World) (P Z N k : Nat) (L : List It) (p : Pc) (s : Sl) (lo : Bool) (M : List Lx) (fm to : Int) (a1 : Option Addr) (c1 : Nat) (w : World) (hS : LsS w0 P Z p s (World.drew w))
  (hl0 : ItsAt w0 (.slice a1 L.length c1) L) (hck : ckL L = 0) (hpp : p.a ≤ p.b ∧ p.b ≤ L.length) (hs : okS s = true) (hr0 : RB 7 lxL (World.drew w) w0.heap.size M) (hk : k < M.length) (hlt : (k : Int) < (N : Int)) (_hkN : k < N) (hP : w0.heap.size < P) (hZ : w0.heap.size < Z)
  (hq : ∀ w',LsS w0 P Z p s w' → RB 7 lxL w' w0.heap.size (M.set k ⟨fm,to,s.x,s.w,p.nt,p.hy,fgI L p s lo⟩) → Q .normal (frp11 v0 v1 v2 v3 v4 v5 v6 v7 v8 v9 xa (.slice a1 L.length c1) xb (.bool lo) (.slice (some ⟨w0.heap.size,0,none⟩) N N) (.int .i64 fm) (.int .i64 (k : Nat)) (.pointer (some ⟨P,0,none⟩)) (.pointer (some ⟨Z,0,none⟩)) (.int .i64 to) xc xd xe xf xg xh xi xj xk xl xm xn xo xp xq xr xt xu xv xw xx xy xz xA xB xC xD xE xF xG xH xI xJ xK xL xM xN xO xP xQ xR xS xT xU (.slice (some ⟨w0.heap.size,0,none⟩) N N) (.int .i64 (k : Nat)) (.int .i64 fm) (.int .i64 to) (.pointer (some ⟨Z,0,none⟩)) (.int .i64 s.x) (.pointer (some ⟨Z,1,none⟩)) (.int .i64 s.w) (.pointer (some ⟨P,4,none⟩)) (.int .i64 p.nt) (.pointer (some ⟨P,3,none⟩)) (.bool p.hy) (.slice a1 L.length c1) (.agg (pcL p).toArray) (.agg (slL s).toArray) (.bool (wdB L p s)) (.bool lo) (.int .i64 (fgI L p s lo)) (.agg (lxL ⟨fm,to,s.x,s.w,p.nt,p.hy,fgI L p s lo⟩).toArray) (.pointer (some ⟨w0.heap.size,k * 7,none⟩)) yp yq yr) w') :
  (Code.region id (opp11_13 ps) true).wp Tryz.prog Q (frp11 v0 v1 v2 v3 v4 v5 v6 v7 v8 v9 xa (.slice a1 L.length c1) xb (.bool lo) (.slice (some ⟨w0.heap.size,0,none⟩) N N) (.int .i64 fm) (.int .i64 (k : Nat)) (.pointer (some ⟨P,0,none⟩)) (.pointer (some ⟨Z,0,none⟩)) (.int .i64 to) xc xd xe xf xg xh xi xj xk xl xm xn xo xp xq xr xt xu xv xw xx xy xz xA xB xC xD xE xF xG xH xI xJ xK xL xM xN xO xP xQ xR xS xT xU xV xW xX xY xZ ya yb yc yd ye yf yg yh yi yj yk yl ym yn yo yp yq yr) w := by
 refine wp_region_held (S := LsS w0 P Z p s) (by kernel_rfl) ?_
 change wpAnyH _ _ _ _ _ 21 _ _ (World.drew w)
 refine take_r 0 ⟨some 64,.move (.tmp 14),44,ps,#[],none⟩ (.slice (some ⟨w0.heap.size,0,none⟩) N N) hQ (fun w _ => by kernel_rfl) hS ?_
 refine take_r 1 ⟨some 65,.move (.tmp 16),3,ps,#[],none⟩ (.int .i64 (k : Nat)) hQ (fun w _ => by kernel_rfl) hS ?_
 refine take_r 2 ⟨some 66,.move (.tmp 15),3,ps,#[],none⟩ (.int .i64 fm) hQ (fun w _ => by kernel_rfl) hS ?_
 refine take_r 3 ⟨some 67,.move (.tmp 19),3,ps,#[],none⟩ (.int .i64 to) hQ (fun w _ => by kernel_rfl) hS ?_
 refine take_r 4 ⟨some 68,.fieldAddr 98 (.tmp 18) 0,0,ps,#[],none⟩ (.pointer (some ⟨Z,0,none⟩)) hQ (fun w hS => by unfold frp11; go_simp) hS ?_
 refine take_k 5 (opp11_13_5 ps) (.int .i64 s.x) (frp11 v0 v1 v2 v3 v4 v5 v6 v7 v8 v9 xa (.slice a1 L.length c1) xb (.bool lo) (.slice (some ⟨w0.heap.size,0,none⟩) N N) (.int .i64 fm) (.int .i64 (k : Nat)) (.pointer (some ⟨P,0,none⟩)) (.pointer (some ⟨Z,0,none⟩)) (.int .i64 to) xc xd xe xf xg xh xi xj xk xl xm xn xo xp xq xr xt xu xv xw xx xy xz xA xB xC xD xE xF xG xH xI xJ xK xL xM xN xO xP xQ xR xS xT xU (.slice (some ⟨w0.heap.size,0,none⟩) N N) (.int .i64 (k : Nat)) (.int .i64 fm) (.int .i64 to) (.pointer (some ⟨Z,0,none⟩)) (.int .i64 s.x) yb yc yd ye yf yg yh yi yj yk yl ym yn yo yp yq yr) hQ (fun w hS => by have e := hS.q0; unfold frp11 opp11_13_5; go_simp) hS ?_
 refine take_r 6 ⟨some 70,.fieldAddr 98 (.tmp 18) 1,0,ps,#[],none⟩ (.pointer (some ⟨Z,1,none⟩)) hQ (fun w hS => by unfold frp11; go_simp) hS ?_
 refine take_r 7 ⟨some 71,.load 3 (.tmp 70),3,ps,#[⟨6,.data⟩],none⟩ (.int .i64 s.w) hQ (fun w hS => by have e := hS.q1; unfold frp11; go_simp) hS ?_
 refine take_r 8 ⟨some 72,.fieldAddr 122 (.tmp 17) 4,0,ps,#[],none⟩ (.pointer (some ⟨P,4,none⟩)) hQ (fun w hS => by unfold frp11; go_simp) hS ?_
 refine take_r 9 ⟨some 73,.load 3 (.tmp 72),3,ps,#[⟨8,.data⟩],none⟩ (.int .i64 p.nt) hQ (fun w hS => by have e := hS.p4; unfold frp11; go_simp) hS ?_
 refine take_r 10 ⟨some 74,.fieldAddr 122 (.tmp 17) 3,0,ps,#[],none⟩ (.pointer (some ⟨P,3,none⟩)) hQ (fun w hS => by unfold frp11; go_simp) hS ?_
 refine take_k 11 (opp11_13_11 ps) (.bool p.hy) (frp11 v0 v1 v2 v3 v4 v5 v6 v7 v8 v9 xa (.slice a1 L.length c1) xb (.bool lo) (.slice (some ⟨w0.heap.size,0,none⟩) N N) (.int .i64 fm) (.int .i64 (k : Nat)) (.pointer (some ⟨P,0,none⟩)) (.pointer (some ⟨Z,0,none⟩)) (.int .i64 to) xc xd xe xf xg xh xi xj xk xl xm xn xo xp xq xr xt xu xv xw xx xy xz xA xB xC xD xE xF xG xH xI xJ xK xL xM xN xO xP xQ xR xS xT xU (.slice (some ⟨w0.heap.size,0,none⟩) N N) (.int .i64 (k : Nat)) (.int .i64 fm) (.int .i64 to) (.pointer (some ⟨Z,0,none⟩)) (.int .i64 s.x) (.pointer (some ⟨Z,1,none⟩)) (.int .i64 s.w) (.pointer (some ⟨P,4,none⟩)) (.int .i64 p.nt) (.pointer (some ⟨P,3,none⟩)) (.bool p.hy) yh yi yj yk yl ym yn yo yp yq yr) hQ (fun w hS => by have e := hS.p3; unfold frp11 opp11_13_11; go_simp) hS ?_
 refine take_r 12 ⟨some 76,.move (.tmp 11),111,ps,#[],none⟩ (.slice a1 L.length c1) hQ (fun w _ => by kernel_rfl) hS ?_
 refine take_r 13 ⟨some 77,.load 122 (.tmp 17),122,ps,#[],none⟩ (.agg (pcL p).toArray) hQ (fun w hS => load_r70 hS.bp rfl rfl) hS ?_
 refine take_r 14 ⟨some 78,.load 98 (.tmp 18),98,ps,#[],none⟩ (.agg (slL s).toArray) hQ (fun w hS => load_r30 hS.bs rfl rfl) hS ?_
 refine take_r 16 ⟨some 80,.move (.tmp 13),4,ps,#[],none⟩ (.bool lo) hQ (fun w _ => by kernel_rfl) hS ?_
 refine want_k 15 (opp11_13_15 ps) fun K hK => ?_
 unfold frp11 opp11_13_15
 go_simp
 refine (wide35 (.slice a1 L.length c1) L p s hck hpp hs _ (hl0.below hS.low (Nat.le_refl _))).mono ?_
 rintro e w1 ⟨rfl,hb1⟩
 have hS1 : LsS w0 P Z p s w1 := hS.below hb1
 have hr1 := hr0.below hb1 hr0.lt
 refine hK _ _ hS1 (cast_h (frp11 v0 v1 v2 v3 v4 v5 v6 v7 v8 v9 xa (.slice a1 L.length c1) xb (.bool lo) (.slice (some ⟨w0.heap.size,0,none⟩) N N) (.int .i64 fm) (.int .i64 (k : Nat)) (.pointer (some ⟨P,0,none⟩)) (.pointer (some ⟨Z,0,none⟩)) (.int .i64 to) xc xd xe xf xg xh xi xj xk xl xm xn xo xp xq xr xt xu xv xw xx xy xz xA xB xC xD xE xF xG xH xI xJ xK xL xM xN xO xP xQ xR xS xT xU (.slice (some ⟨w0.heap.size,0,none⟩) N N) (.int .i64 (k : Nat)) (.int .i64 fm) (.int .i64 to) (.pointer (some ⟨Z,0,none⟩)) (.int .i64 s.x) (.pointer (some ⟨Z,1,none⟩)) (.int .i64 s.w) (.pointer (some ⟨P,4,none⟩)) (.int .i64 p.nt) (.pointer (some ⟨P,3,none⟩)) (.bool p.hy) (.slice a1 L.length c1) (.agg (pcL p).toArray) (.agg (slL s).toArray) (.bool (wdB L p s)) (.bool lo) ym yn yo yp yq yr) (by kernel_rfl) ?_)
 clear hK K
 refine want_k 17 (opp11_13_17 ps) fun K hK => ?_
 unfold frp11 opp11_13_17
 go_simp
 refine (flag34 (wdB L p s) lo _).mono ?_
 rintro e w2 ⟨rfl,rfl⟩
 have hS2 : LsS w0 P Z p s w2 := hS1
 refine hK _ _ hS2 (cast_h (frp11 v0 v1 v2 v3 v4 v5 v6 v7 v8 v9 xa (.slice a1 L.length c1) xb (.bool lo) (.slice (some ⟨w0.heap.size,0,none⟩) N N) (.int .i64 fm) (.int .i64 (k : Nat)) (.pointer (some ⟨P,0,none⟩)) (.pointer (some ⟨Z,0,none⟩)) (.int .i64 to) xc xd xe xf xg xh xi xj xk xl xm xn xo xp xq xr xt xu xv xw xx xy xz xA xB xC xD xE xF xG xH xI xJ xK xL xM xN xO xP xQ xR xS xT xU (.slice (some ⟨w0.heap.size,0,none⟩) N N) (.int .i64 (k : Nat)) (.int .i64 fm) (.int .i64 to) (.pointer (some ⟨Z,0,none⟩)) (.int .i64 s.x) (.pointer (some ⟨Z,1,none⟩)) (.int .i64 s.w) (.pointer (some ⟨P,4,none⟩)) (.int .i64 p.nt) (.pointer (some ⟨P,3,none⟩)) (.bool p.hy) (.slice a1 L.length c1) (.agg (pcL p).toArray) (.agg (slL s).toArray) (.bool (wdB L p s)) (.bool lo) (.int .i64 (fgI L p s lo)) yn yo yp yq yr) (by kernel_rfl) ?_)
 clear hK K
 refine take_r 18 ⟨some 82,.build 55 #[(0,.tmp 66),(1,.tmp 67),(2,.tmp 69),(3,.tmp 71),(4,.tmp 73),(5,.tmp 75),(6,.tmp 81)],55,ps,#[⟨2,.data⟩,⟨3,.data⟩,⟨5,.data⟩,⟨7,.data⟩,⟨9,.data⟩,⟨11,.data⟩,⟨17,.data⟩],none⟩ (.agg (lxL ⟨fm,to,s.x,s.w,p.nt,p.hy,fgI L p s lo⟩).toArray) hQ (fun w hS => by unfold frp11; go_simp; try rfl) hS2 ?_
 refine take_r 19 ⟨some 83,.indexAddr 44 (.tmp 64) (.tmp 65),0,ps,#[⟨0,.data⟩,⟨1,.data⟩,⟨0,.phase⟩,⟨1,.phase⟩,⟨2,.phase⟩,⟨3,.phase⟩,⟨4,.phase⟩,⟨5,.phase⟩,⟨6,.phase⟩,⟨7,.phase⟩,⟨8,.phase⟩,⟨9,.phase⟩,⟨10,.phase⟩,⟨11,.phase⟩,⟨12,.phase⟩,⟨13,.phase⟩,⟨14,.phase⟩,⟨15,.phase⟩,⟨16,.phase⟩,⟨17,.phase⟩,⟨18,.phase⟩],none⟩ (.pointer (some ⟨w0.heap.size,k * 7,none⟩)) hQ (fun w hS => by unfold frp11; have e := hlt; go_simp) hS2 ?_
 refine want_k 20 (opp11_13_20 ps) fun K hK => ?_
 refine wp_store_mid 55 _ _ (by unfold opp11_13_20; rfl) w0.heap.size (k * 7) (lxL ⟨fm,to,s.x,s.w,p.nt,p.hy,fgI L p s lo⟩).toArray rfl rfl (hr1.there lxL_len hk) (infoL51 _) (lxL_all _) ?_
 have hS3 : LsS w0 P Z p s (w2.setCells w0.heap.size (k * 7) (lxL ⟨fm,to,s.x,s.w,p.nt,p.hy,fgI L p s lo⟩)) := hS2.turn hP hZ _ _
 have hr3 := hr1.set lxL_len hk ⟨fm,to,s.x,s.w,p.nt,p.hy,fgI L p s lo⟩
 refine hK _ _ hS3 (cast_h (frp11 v0 v1 v2 v3 v4 v5 v6 v7 v8 v9 xa (.slice a1 L.length c1) xb (.bool lo) (.slice (some ⟨w0.heap.size,0,none⟩) N N) (.int .i64 fm) (.int .i64 (k : Nat)) (.pointer (some ⟨P,0,none⟩)) (.pointer (some ⟨Z,0,none⟩)) (.int .i64 to) xc xd xe xf xg xh xi xj xk xl xm xn xo xp xq xr xt xu xv xw xx xy xz xA xB xC xD xE xF xG xH xI xJ xK xL xM xN xO xP xQ xR xS xT xU (.slice (some ⟨w0.heap.size,0,none⟩) N N) (.int .i64 (k : Nat)) (.int .i64 fm) (.int .i64 to) (.pointer (some ⟨Z,0,none⟩)) (.int .i64 s.x) (.pointer (some ⟨Z,1,none⟩)) (.int .i64 s.w) (.pointer (some ⟨P,4,none⟩)) (.int .i64 p.nt) (.pointer (some ⟨P,3,none⟩)) (.bool p.hy) (.slice a1 L.length c1) (.agg (pcL p).toArray) (.agg (slL s).toArray) (.bool (wdB L p s)) (.bool lo) (.int .i64 (fgI L p s lo)) (.agg (lxL ⟨fm,to,s.x,s.w,p.nt,p.hy,fgI L p s lo⟩).toArray) (.pointer (some ⟨w0.heap.size,k * 7,none⟩)) yp yq yr) (by kernel_rfl) ?_)
 clear hK K
 exact wpAnyH_done (by kernel_rfl) (hq _ hS3 hr3) _
end Go.Proofs.YtaphggjakaghjaaGreatDoor
