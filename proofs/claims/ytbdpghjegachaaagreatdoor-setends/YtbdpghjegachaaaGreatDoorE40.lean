/-
  What is proved here: CopyPara: the same paragraph with lists of its own.
-/
import Derived.Test.YtbdpghjegachaaaGreatDoorE39
import Derived.Test.YtbdpghjegachaaaGreatDoorE8
namespace Go.Proofs.YtbdpghjegachaaaGreatDoor
open Go.RowKit Go.Shelf
set_option maxRecDepth 100000
set_option maxHeartbeats 4000000

theorem info51c : (Tryz.prog.info? 91).map (fun i => (i.zero,i.size,i.bytes)) = some (some (.agg #[.int .i64 0,.int .i64 0,.int .i64 0,.int .i64 0]),4,32) := by kernel_rfl
theorem info9c : (Tryz.prog.info? 9).map (fun i => (i.zero,i.size,i.bytes)) = some (some (.string ⟨#[]⟩),1,16) := by kernel_rfl
theorem rec_of_strs {W : World} {v : Value} {qs : List ByteArray} (h : StrsAt W v qs) : RecAt 1 (fun t => [Value.string t]) W v qs := by
 obtain ⟨a,cap,rfl,h2⟩ := h.ex
 refine ⟨⟨a,cap,rfl,?_⟩,h.le⟩
 rcases h2 with h2 | ⟨b,o,rfl,hb,hc⟩
 ·exact .inl h2
 ·refine .inr ⟨b,o,rfl,hb,fun i hi j u hu => ?_⟩
  have hj : j = 0 := by
   have := (List.getElem?_eq_some_iff.1 hu).1
   simp at this
   exact this
  subst hj
  simp at hu
  subst hu
  have := hc i hi
  simpa using this

theorem paC_one2 {a : Pa} (h1 : a.sv.oneCell' = true) (h2 : a.mv.oneCell' = true) : (paC a).all (·.oneCell') = true := by
 have e : ∀ n,(Value.int .i64 n).oneCell' = true := fun _ => rfl
 have e2 : ∀ s,(Value.string s).oneCell' = true := fun _ => rfl
 simp [paC,e,e2,h1,h2]
theorem rec_turnsC {α : Type} {k : Nat} {f : α → List Value} {W W' : World} {X : Nat → Prop} {v : Value} {rs : List α} (h : RecAt k f W v rs) (ht : Turns X W W') (hX : ∀ b o n c,v = .slice (some ⟨b,o,none⟩) n c → ¬ X b) : RecAt k f W' v rs := by
 have hle := h.le
 obtain ⟨a,cap,rfl,h2⟩ := h.ex
 refine ⟨⟨a,cap,rfl,?_⟩,hle⟩
 rcases h2 with h2 | ⟨b,o,rfl,hlt,hc⟩
 ·exact .inl h2
 ·exact .inr ⟨b,o,rfl,Nat.lt_of_lt_of_le hlt ht.size,fun i hi j u hu => cell_turns (hc i hi j u hu) hlt ht (hX b o _ _ rfl)⟩
def fr16 (v0 v1 v2 v3 v4 v5 v6 v7 v8 v9 v10 v11 v12 v13 v14 v15 : Value) : Act := { tmps := #[v0,v1,v2,v3,v4,v5,v6,v7,v8,v9,v10,v11,v12,v13,v14,v15],defers := [] }
def ops16_2 (ps : String) : Array Oper := #[⟨some 5,.buildSlice 22 0 #[],22,ps,#[],none⟩,⟨some 6,.fieldAddr 27 (.tmp 1) 1,0,ps,#[],none⟩,⟨some 7,.load 22 (.tmp 6),22,ps,#[⟨1,.data⟩],none⟩,⟨some 8,.call ⟨.builtin .append,#[.tmp 5,.tmp 7],#[22,22]⟩,22,ps,#[⟨0,.data⟩,⟨2,.data⟩],none⟩,⟨some 9,.fieldAddr 27 (.tmp 3) 1,0,ps,#[⟨0,.phase⟩,⟨1,.phase⟩,⟨2,.phase⟩,⟨3,.phase⟩],none⟩,⟨none,.store 22 (.tmp 9) (.tmp 8),0,ps,#[⟨4,.data⟩,⟨3,.data⟩,⟨3,.chain⟩,⟨0,.phase⟩,⟨1,.phase⟩,⟨2,.phase⟩,⟨3,.phase⟩],none⟩]
theorem copy_r2 (Q : Exit → Act → World → Prop) (id : Nat) (ps : String) {v0 v2 v4 v5 v6 v7 v8 v9 v10 v11 v12 v13 v14 v15 : Value} (B O : Nat) (a a' : Pa) (hn : a.sp.length ≤ 5000) (w : World) (hP : PB w B a) (hO : PB w O a') (hA : RecAt 4 spL w a.sv a.sp)
  (hq : Hid (∀ v W,RecAt 4 spL W v a.sp → (∀ b o n c,v = .slice (some ⟨b,o,none⟩) n c → w.heap.size ≤ b) → W.heap[O]? = some (.cells ((paC a').setIfInBounds 1 v) 27 (0,0)) → Turns (fun b => b = O) w W → ∀ u5 u6 u7 u8 u9,Q .normal (fr16 v0 (.pointer (some ⟨B,0,none⟩)) v2 (.pointer (some ⟨O,0,none⟩)) v4 u5 u6 u7 u8 u9 v10 v11 v12 v13 v14 v15) W)) :
  (Code.region id (ops16_2 ps) false).wp Tryz.prog Q (fr16 v0 (.pointer (some ⟨B,0,none⟩)) v2 (.pointer (some ⟨O,0,none⟩)) v4 v5 v6 v7 v8 v9 v10 v11 v12 v13 v14 v15) w := by
 obtain ⟨i0,hi,hz0,hz1,hz2⟩ := info_parts info51c
 replace hi : Hid _ := hi
 have hb1 := (Below.refl w.heap.size w).alloc (Nat.le_refl _) (.cells #[] 91)
 have hsrc := rec_srcs spL_len spL_one (by decide) (hA.below hb1 (Nat.le_refl _))
 have hP1 := hP.below hb1 hP.lt
 have c1 := hP1.c1
 replace hsrc : Hid _ := hsrc
 have hbase : w.heap.size ≤ (w.alloc (.cells #[] 91)).heap.size := by simp
 have hOl := hO.lt
 unfold ops16_2 fr16
 go_wp2_with (at_builtin; refine wpList_append_any _ rfl _ _ 22 rfl w.heap.size 91 i0 _ 4 32 Tryz.underlying22 hi.out hz0 hz1 hz2 rfl (by decide) _ 0 [] rfl (ownsRow_lit w 91 4 _ (Nat.le_refl _)) a.sp.length (a.sp.flatMap spL) _ rfl hsrc.out (by unfold maxLen; omega) (by omega) hbase ?_; intro v' w2 hown hgrow; rw [Nat.zero_add,List.nil_append] at hown; obtain ⟨ad,nn,cc,rfl⟩ : ∃ ad nn cc,v' = .slice ad nn cc := (by rcases hown.2 with ⟨h,_⟩ | ⟨g,cap,cur,h,_⟩ <;> exact ⟨_,_,_,h⟩); replace hown : Hid _ := hown; have hB : Below w.heap.size w w2 := below_grown hb1 (ownsRow_lit w 91 4 _ (Nat.le_refl _)) (Nat.le_refl _) (Nat.le_refl _) hgrow; have hO2 := hO.below hB hO.lt; have k1 := hO2.c1; have g1 : w2.frozen? ⟨O,1,none⟩ = false := Lib.frozen_of_heap hO2.row 1)
 have hT : Turns (fun b => b = O) w2 (w2.setCell ⟨O,1,none⟩ (.slice ad nn cc)) := Turns.setCell (X := fun b => b = O) _ (p := ⟨O,1,none⟩) rfl _
 have hown' : w2.ownsRow w.heap.size 91 4 (.slice ad nn cc) a.sp.length (a.sp.flatMap spL) := hown.out
 have hlt : ∀ g,(Value.slice ad nn cc).ownBlock = some g → w.heap.size ≤ g := fun g hg => (hown'.lt g hg).1
 exact hq.out (.slice ad nn cc) _ (rec_of_row spL_len rfl (ownsRow_turns hown.out hT (fun g hg e => by have := hlt g hg; omega))) (fun b o n c e => by cases e; rcases hown.out.2 with ⟨h,_⟩ | ⟨g,cap,cur,h,hb',_⟩ <;> cases h; exact hb') (heap_setCell_same w2 O 1 _ 27 (.slice ad nn cc) hO2.row) (((Turns.of_below hB).mono (fun _ h => h.elim)).trans hT) _ _ _ _ _

def ops16_3 (ps : String) : Array Oper := #[⟨some 10,.buildSlice 25 0 #[],25,ps,#[],none⟩,⟨some 11,.fieldAddr 27 (.tmp 1) 4,0,ps,#[],none⟩,⟨some 12,.load 25 (.tmp 11),25,ps,#[⟨1,.data⟩],none⟩,⟨some 13,.call ⟨.builtin .append,#[.tmp 10,.tmp 12],#[25,25]⟩,25,ps,#[⟨0,.data⟩,⟨2,.data⟩],none⟩,⟨some 14,.fieldAddr 27 (.tmp 3) 4,0,ps,#[⟨0,.phase⟩,⟨1,.phase⟩,⟨2,.phase⟩,⟨3,.phase⟩],none⟩,⟨none,.store 25 (.tmp 14) (.tmp 13),0,ps,#[⟨4,.data⟩,⟨3,.data⟩,⟨3,.chain⟩,⟨0,.phase⟩,⟨1,.phase⟩,⟨2,.phase⟩,⟨3,.phase⟩],none⟩]
theorem copy_r3 (Q : Exit → Act → World → Prop) (id : Nat) (ps : String) {v0 v2 v4 v5 v6 v7 v8 v9 v10 v11 v12 v13 v14 v15 : Value} (B O : Nat) (a a' : Pa) (hn : a.ms.length ≤ 5000) (w : World) (hP : PB w B a) (hO : PB w O a') (hA : StrsAt w a.mv a.ms)
  (hq : Hid (∀ v W,StrsAt W v a.ms → (∀ b o n c,v = .slice (some ⟨b,o,none⟩) n c → w.heap.size ≤ b) → W.heap[O]? = some (.cells ((paC a').setIfInBounds 20 v) 27 (0,0)) → Turns (fun b => b = O) w W → ∀ u10 u11 u12 u13 u14,Q .normal (fr16 v0 (.pointer (some ⟨B,0,none⟩)) v2 (.pointer (some ⟨O,0,none⟩)) v4 v5 v6 v7 v8 v9 u10 u11 u12 u13 u14 v15) W)) :
  (Code.region id (ops16_3 ps) false).wp Tryz.prog Q (fr16 v0 (.pointer (some ⟨B,0,none⟩)) v2 (.pointer (some ⟨O,0,none⟩)) v4 v5 v6 v7 v8 v9 v10 v11 v12 v13 v14 v15) w := by
 obtain ⟨i0,hi,hz0,hz1,hz2⟩ := info_parts info9c
 replace hi : Hid _ := hi
 have hb1 := (Below.refl w.heap.size w).alloc (Nat.le_refl _) (.cells #[] 9)
 have hsrc := rec_srcs (k := 1) (f := fun t => [Value.string t]) (fun _ => rfl) (by intro a u hu; simp at hu; subst hu; rfl) (by decide) (rec_of_strs (hA.below hb1 (Nat.le_refl _)))
 have hP1 := hP.below hb1 hP.lt
 have c1 := hP1.c20
 replace hsrc : Hid _ := hsrc
 have hbase : w.heap.size ≤ (w.alloc (.cells #[] 9)).heap.size := by simp
 have hOl := hO.lt
 unfold ops16_3 fr16
 go_wp2_with (at_builtin; refine wpList_append_any _ rfl _ _ 25 rfl w.heap.size 9 i0 _ 1 16 Tryz.underlying25 hi.out hz0 hz1 hz2 rfl (by decide) _ 0 [] rfl (ownsRow_lit w 9 1 _ (Nat.le_refl _)) a.ms.length (a.ms.flatMap (fun t => [Value.string t])) _ rfl hsrc.out (by unfold maxLen; omega) (by omega) hbase ?_; intro v' w2 hown hgrow; rw [Nat.zero_add,List.nil_append] at hown; obtain ⟨ad,nn,cc,rfl⟩ : ∃ ad nn cc,v' = .slice ad nn cc := (by rcases hown.2 with ⟨h,_⟩ | ⟨g,cap,cur,h,_⟩ <;> exact ⟨_,_,_,h⟩); replace hown : Hid _ := hown; have hB : Below w.heap.size w w2 := below_grown hb1 (ownsRow_lit w 9 1 _ (Nat.le_refl _)) (Nat.le_refl _) (Nat.le_refl _) hgrow; have hO2 := hO.below hB hO.lt; have k1 := hO2.c20; have g1 : w2.frozen? ⟨O,20,none⟩ = false := Lib.frozen_of_heap hO2.row 20)
 have hT : Turns (fun b => b = O) w2 (w2.setCell ⟨O,20,none⟩ (.slice ad nn cc)) := Turns.setCell (X := fun b => b = O) _ (p := ⟨O,20,none⟩) rfl _
 have hown' : w2.ownsRow w.heap.size 9 1 (.slice ad nn cc) a.ms.length (a.ms.flatMap (fun t => [Value.string t])) := hown.out
 have hlt : ∀ g,(Value.slice ad nn cc).ownBlock = some g → w.heap.size ≤ g := fun g hg => (hown'.lt g hg).1
 exact hq.out (.slice ad nn cc) _ ((fun h => strs_of_rec (rec_of_row (f := fun t => [Value.string t]) (fun _ => rfl) rfl h)) (ownsRow_turns hown.out hT (fun g hg e => by have := hlt g hg; omega))) (fun b o n c e => by cases e; rcases hown.out.2 with ⟨h,_⟩ | ⟨g,cap,cur,h,hb',_⟩ <;> cases h; exact hb') (heap_setCell_same w2 O 20 _ 27 (.slice ad nn cc) hO2.row) (((Turns.of_below hB).mono (fun _ h => h.elim)).trans hT) _ _ _ _ _


theorem copy_any (a : Pa) (h1 : a.sp.length ≤ 5000) (h2 : a.ms.length ≤ 5000) (w : World) (hA : PaAt w a) :
  Calls Tryz.prog 7 #[paV a] w fun e w' => ∃ v u,e = .returned (paV (paW a v u)) ∧ PaAt w' (paW a v u) ∧ Below w.heap.size w w' := by
 have hB := (Below.refl w.heap.size w).alloc (Nat.le_refl _) (Obj.cells (paC a) 27)
 have hP := PB.new w a
 have hs1 : (w.alloc (.cells (paC a) 27)).heap.size = w.heap.size + 1 := World.size_alloc _ _
 have h1c : a.sv.oneCell' = true := by obtain ⟨ad,c,e,_⟩ := hA.sp.ex; rw [e]; rfl
 have h2c : a.mv.oneCell' = true := by obtain ⟨ad,c,e,_⟩ := hA.ms.ex; rw [e]; rfl
 have hone := paC_one2 h1c h2c
 replace hone : Hid _ := hone
 unfold paV
 have hA' : Hid (PaAt w a) := hA
 clear hA h1c h2c
 generalize hw1 : w.alloc (.cells (paC a) 27) = w1 at *
 have hB2 := hB.alloc hB.size (Obj.cells #[.string ⟨#[]⟩,.slice none 0 0,.int .i64 0,.int .i64 0,.int .i64 0,.int .i64 0,.int .i64 0,.int .i64 0,.int .i64 0,.int .i64 0,.int .i64 0,.int .i64 0,.int .i64 0,.int .i64 0,.int .i64 0,.int .i64 0,.int .i64 0,.int .i64 0,.int .i64 0,.string ⟨#[]⟩,.slice none 0 0] 27)
 have hP2 : PB (w1.alloc (.cells #[.string ⟨#[]⟩,.slice none 0 0,.int .i64 0,.int .i64 0,.int .i64 0,.int .i64 0,.int .i64 0,.int .i64 0,.int .i64 0,.int .i64 0,.int .i64 0,.int .i64 0,.int .i64 0,.int .i64 0,.int .i64 0,.int .i64 0,.int .i64 0,.int .i64 0,.int .i64 0,.string ⟨#[]⟩,.slice none 0 0] 27)) w.heap.size a := ⟨(Below.heap_alloc _ _ _ (by omega)).trans hP.row⟩
 have hR2 : (w1.alloc (.cells #[.string ⟨#[]⟩,.slice none 0 0,.int .i64 0,.int .i64 0,.int .i64 0,.int .i64 0,.int .i64 0,.int .i64 0,.int .i64 0,.int .i64 0,.int .i64 0,.int .i64 0,.int .i64 0,.int .i64 0,.int .i64 0,.int .i64 0,.int .i64 0,.int .i64 0,.int .i64 0,.string ⟨#[]⟩,.slice none 0 0] 27)).heap[w.heap.size + 1]? = some (.cells #[.string ⟨#[]⟩,.slice none 0 0,.int .i64 0,.int .i64 0,.int .i64 0,.int .i64 0,.int .i64 0,.int .i64 0,.int .i64 0,.int .i64 0,.int .i64 0,.int .i64 0,.int .i64 0,.int .i64 0,.int .i64 0,.int .i64 0,.int .i64 0,.int .i64 0,.int .i64 0,.string ⟨#[]⟩,.slice none 0 0] 27 (0,0)) := by rw [← hs1]; exact World.alloc_heap_new w1 _
 have hs2 : (w1.alloc (.cells #[.string ⟨#[]⟩,.slice none 0 0,.int .i64 0,.int .i64 0,.int .i64 0,.int .i64 0,.int .i64 0,.int .i64 0,.int .i64 0,.int .i64 0,.int .i64 0,.int .i64 0,.int .i64 0,.int .i64 0,.int .i64 0,.int .i64 0,.int .i64 0,.int .i64 0,.int .i64 0,.string ⟨#[]⟩,.slice none 0 0] 27)).heap.size = w.heap.size + 2 := by rw [World.size_alloc,hs1]
 have hB3 := hB2.alloc hB2.size (Obj.cells #[.string ⟨#[]⟩,.slice none 0 0,.int .i64 0,.int .i64 0,.int .i64 0,.int .i64 0,.int .i64 0,.int .i64 0,.int .i64 0,.int .i64 0,.int .i64 0,.int .i64 0,.int .i64 0,.int .i64 0,.int .i64 0,.int .i64 0,.int .i64 0,.int .i64 0,.int .i64 0,.string ⟨#[]⟩,.slice none 0 0] 27)
 have hP3 : PB ((w1.alloc (.cells #[.string ⟨#[]⟩,.slice none 0 0,.int .i64 0,.int .i64 0,.int .i64 0,.int .i64 0,.int .i64 0,.int .i64 0,.int .i64 0,.int .i64 0,.int .i64 0,.int .i64 0,.int .i64 0,.int .i64 0,.int .i64 0,.int .i64 0,.int .i64 0,.int .i64 0,.int .i64 0,.string ⟨#[]⟩,.slice none 0 0] 27)).alloc (.cells #[.string ⟨#[]⟩,.slice none 0 0,.int .i64 0,.int .i64 0,.int .i64 0,.int .i64 0,.int .i64 0,.int .i64 0,.int .i64 0,.int .i64 0,.int .i64 0,.int .i64 0,.int .i64 0,.int .i64 0,.int .i64 0,.int .i64 0,.int .i64 0,.int .i64 0,.int .i64 0,.string ⟨#[]⟩,.slice none 0 0] 27)) w.heap.size a := ⟨(Below.heap_alloc _ _ _ (by omega)).trans hP2.row⟩
 have hR3 : ((w1.alloc (.cells #[.string ⟨#[]⟩,.slice none 0 0,.int .i64 0,.int .i64 0,.int .i64 0,.int .i64 0,.int .i64 0,.int .i64 0,.int .i64 0,.int .i64 0,.int .i64 0,.int .i64 0,.int .i64 0,.int .i64 0,.int .i64 0,.int .i64 0,.int .i64 0,.int .i64 0,.int .i64 0,.string ⟨#[]⟩,.slice none 0 0] 27)).alloc (.cells #[.string ⟨#[]⟩,.slice none 0 0,.int .i64 0,.int .i64 0,.int .i64 0,.int .i64 0,.int .i64 0,.int .i64 0,.int .i64 0,.int .i64 0,.int .i64 0,.int .i64 0,.int .i64 0,.int .i64 0,.int .i64 0,.int .i64 0,.int .i64 0,.int .i64 0,.int .i64 0,.string ⟨#[]⟩,.slice none 0 0] 27)).heap[w.heap.size + 1]? = some (.cells #[.string ⟨#[]⟩,.slice none 0 0,.int .i64 0,.int .i64 0,.int .i64 0,.int .i64 0,.int .i64 0,.int .i64 0,.int .i64 0,.int .i64 0,.int .i64 0,.int .i64 0,.int .i64 0,.int .i64 0,.int .i64 0,.int .i64 0,.int .i64 0,.int .i64 0,.int .i64 0,.string ⟨#[]⟩,.slice none 0 0] 27 (0,0)) := (Below.heap_alloc _ _ _ (by omega)).trans hR2
 have hO3 : ((w1.alloc (.cells #[.string ⟨#[]⟩,.slice none 0 0,.int .i64 0,.int .i64 0,.int .i64 0,.int .i64 0,.int .i64 0,.int .i64 0,.int .i64 0,.int .i64 0,.int .i64 0,.int .i64 0,.int .i64 0,.int .i64 0,.int .i64 0,.int .i64 0,.int .i64 0,.int .i64 0,.int .i64 0,.string ⟨#[]⟩,.slice none 0 0] 27)).alloc (.cells #[.string ⟨#[]⟩,.slice none 0 0,.int .i64 0,.int .i64 0,.int .i64 0,.int .i64 0,.int .i64 0,.int .i64 0,.int .i64 0,.int .i64 0,.int .i64 0,.int .i64 0,.int .i64 0,.int .i64 0,.int .i64 0,.int .i64 0,.int .i64 0,.int .i64 0,.int .i64 0,.string ⟨#[]⟩,.slice none 0 0] 27)).heap[w.heap.size + 2]? = some (.cells #[.string ⟨#[]⟩,.slice none 0 0,.int .i64 0,.int .i64 0,.int .i64 0,.int .i64 0,.int .i64 0,.int .i64 0,.int .i64 0,.int .i64 0,.int .i64 0,.int .i64 0,.int .i64 0,.int .i64 0,.int .i64 0,.int .i64 0,.int .i64 0,.int .i64 0,.int .i64 0,.string ⟨#[]⟩,.slice none 0 0] 27 (0,0)) := by rw [← hs2]; exact World.alloc_heap_new _ _
 have hs3 : ((w1.alloc (.cells #[.string ⟨#[]⟩,.slice none 0 0,.int .i64 0,.int .i64 0,.int .i64 0,.int .i64 0,.int .i64 0,.int .i64 0,.int .i64 0,.int .i64 0,.int .i64 0,.int .i64 0,.int .i64 0,.int .i64 0,.int .i64 0,.int .i64 0,.int .i64 0,.int .i64 0,.int .i64 0,.string ⟨#[]⟩,.slice none 0 0] 27)).alloc (.cells #[.string ⟨#[]⟩,.slice none 0 0,.int .i64 0,.int .i64 0,.int .i64 0,.int .i64 0,.int .i64 0,.int .i64 0,.int .i64 0,.int .i64 0,.int .i64 0,.int .i64 0,.int .i64 0,.int .i64 0,.int .i64 0,.int .i64 0,.int .i64 0,.int .i64 0,.int .i64 0,.string ⟨#[]⟩,.slice none 0 0] 27)).heap.size = w.heap.size + 3 := by rw [World.size_alloc,hs2]
 go_enter Tryz.func7,Tryz.ntmps7
 apply wp_seq_k; intro K0 hK0
 replace hK0 : Hid _ := hK0
 go_wp2_with fail
 refine hK0.out _ _ ?_
 clear hK0 K0
 apply wp_seq_k; intro K1 hK1
 replace hK1 : Hid _ := hK1
 go_wp2_with (first | (refine wpList_load_row rfl 27 _ rfl w.heap.size rfl 27 _ (0,0) _ hP2.row Tryz.underlying27 rfl (info34 a) ?_) | (refine wpList_store_row rfl 27 _ _ rfl (w.heap.size + 2) (paC a) rfl rfl 27 _ hO3 (info34 _) rfl hone.out ?_))
 refine hK1.out _ _ ?_
 clear hK1 K1
 generalize hw3 : (w1.alloc (.cells #[.string ⟨#[]⟩,.slice none 0 0,.int .i64 0,.int .i64 0,.int .i64 0,.int .i64 0,.int .i64 0,.int .i64 0,.int .i64 0,.int .i64 0,.int .i64 0,.int .i64 0,.int .i64 0,.int .i64 0,.int .i64 0,.int .i64 0,.int .i64 0,.int .i64 0,.int .i64 0,.string ⟨#[]⟩,.slice none 0 0] 27)).alloc (.cells #[.string ⟨#[]⟩,.slice none 0 0,.int .i64 0,.int .i64 0,.int .i64 0,.int .i64 0,.int .i64 0,.int .i64 0,.int .i64 0,.int .i64 0,.int .i64 0,.int .i64 0,.int .i64 0,.int .i64 0,.int .i64 0,.int .i64 0,.int .i64 0,.int .i64 0,.int .i64 0,.string ⟨#[]⟩,.slice none 0 0] 27) = w3 at *
 have hT4 : Turns (fun b => b = w.heap.size + 2) w3 (w3.setRow (w.heap.size + 2) (paC a)) := Turns.setRow (X := fun b => b = w.heap.size + 2) _ (r := w.heap.size + 2) rfl _
 have hB4 := hB3.trans (hT4.below hB3.size (fun b hb => by omega))
 have hP4 := hP3.turns hT4 (by omega)
 have hR4 := (hT4.block (w.heap.size + 1) (by omega) (by omega)).trans hR3
 have hO4 : PB (w3.setRow (w.heap.size + 2) (paC a)) (w.heap.size + 2) a := ⟨setRow_heap _ _ _ _ 27 _ hO3⟩
 generalize hw4 : w3.setRow (w.heap.size + 2) (paC a) = w4 at *
 have hA4 := hA'.out.below hB4 (Nat.le_refl _)
 clear hT4 hw1 hw3 hP hP2 hP3 hR2 hR3 hO3 hs2 hs3 hB2 hB3
 apply wp_seq_k; intro K2 hK2
 refine copy_r2 _ _ _ w.heap.size (w.heap.size + 2) a a h1 w4 hP4 hO4 hA4.sp (fun v w5 hI5 hv5 hO5 hT5 _ _ _ _ _ => hK2 _ _ ?_)
 clear hK2 K2
 have hO5' : PB w5 (w.heap.size + 2) (paW a v a.mv) := ⟨hO5⟩
 have hB5 := hB4.trans (hT5.below hB4.size (fun b hb => by omega))
 have hP5 := hP4.turns hT5 (by omega)
 have hR5 := (hT5.block (w.heap.size + 1) (Array.getElem?_eq_some_iff.1 hR4).1 (by omega)).trans hR4
 have hA5 := hA'.out.below hB5 (Nat.le_refl _)
 apply wp_seq_k; intro K3 hK3
 refine copy_r3 _ _ _ w.heap.size (w.heap.size + 2) a (paW a v a.mv) h2 w5 hP5 hO5' hA5.ms (fun u w6 hI6 hu6 hO6 hT6 _ _ _ _ _ => hK3 _ _ ?_)
 clear hK3 K3
 have hO6' : PB w6 (w.heap.size + 2) (paW a v u) := ⟨hO6⟩
 have hB6 := hB5.trans (hT6.below hB5.size (fun b hb => by omega))
 have hR6 := (hT6.block (w.heap.size + 1) (Array.getElem?_eq_some_iff.1 hR5).1 (by omega)).trans hR5
 have hl4 : w.heap.size + 2 < w4.heap.size := hO4.lt
 have hl5 : w.heap.size + 2 < w5.heap.size := hO5'.lt
 have hIv : ∀ b o n c,v = .slice (some ⟨b,o,none⟩) n c → ¬ b = w.heap.size + 2 := fun b o n c e => by have := hv5 b o n c e; omega
 have hIv2 : ∀ b o n c,v = .slice (some ⟨b,o,none⟩) n c → ¬ b = w.heap.size + 1 := fun b o n c e => by have := hv5 b o n c e; omega
 have hIu : ∀ b o n c,u = .slice (some ⟨b,o,none⟩) n c → ¬ b = w.heap.size + 1 := fun b o n c e => by have := hu6 b o n c e; omega
 have hI6' : RecAt 4 spL w6 v a.sp := rec_turnsC hI5 hT6 hIv
 have hone6 : Hid ((paC (paW a v u)).all (·.oneCell') = true) := by
  refine paC_one2 ?_ ?_
  ·obtain ⟨ad,c,e,_⟩ := hI5.ex; show v.oneCell' = true; rw [e]; rfl
  ·obtain ⟨ad,c,e,_⟩ := hI6.ex; show u.oneCell' = true; rw [e]; rfl
 have hT7 : Turns (fun b => b = w.heap.size + 1) w6 (w6.setRow (w.heap.size + 1) (paC (paW a v u))) := Turns.setRow (X := fun b => b = w.heap.size + 1) _ (r := w.heap.size + 1) rfl _
 have hR7 : PB (w6.setRow (w.heap.size + 1) (paC (paW a v u))) (w.heap.size + 1) (paW a v u) := ⟨setRow_heap _ _ _ _ 27 _ hR6⟩
 have hB7 := hB6.trans (hT7.below hB6.size (fun b hb => by omega))
 have hA7 : PaAt (w6.setRow (w.heap.size + 1) (paC (paW a v u))) (paW a v u) := ⟨rec_turnsC hI6' hT7 hIv2,strs_of_rec (rec_turnsC (rec_of_strs hI6) hT7 hIu),hA'.out.few⟩
 unfold fr16
 go_wp2_with (first | (refine wpList_load_row rfl 27 _ rfl (w.heap.size + 2) rfl 27 _ (0,0) _ hO6'.row Tryz.underlying27 rfl (info34 _) ?_) | (refine wpList_store_row rfl 27 _ _ rfl (w.heap.size + 1) (paC (paW a v u)) rfl rfl 27 _ hR6 (info34 _) rfl hone6.out ?_))
 refine bodyPost_ret (results_cell_row rfl _ _ (w.heap.size + 1) 27 _ (0,0) _ rfl hR7.row Tryz.underlying27 rfl (info34 _)) rfl ⟨v,u,rfl,hA7,hB7⟩
end Go.Proofs.YtbdpghjegachaaaGreatDoor
