/-
  What is proved here: what row answers: a row of the cells of texts.
  What is proved here: slices.Chunk of a table's texts gives its rows' texts, one behind another.
  What is proved here: a round of Rows: a row more.
-/
import Derived.Test.YtaphggjakaghjaaGreatDoorG32
import Derived.Test.YtaphggjakaghjaaGreatDoorG26
import Derived.Test.YtaphggjakaghjaaGreatDoorG25
namespace Go.Proofs.YtaphggjakaghjaaGreatDoor
open Go.RowKit Go.Shelf
set_option maxRecDepth 100000
set_option maxHeartbeats 4000000

def ceA (x y : Int) (v : Value) : Array Value := #[.int .i64 x,.int .i64 y,v]
theorem info46a (x y : Int) (v : Value) : (Tryz.prog.info? 46).map (·.size) = some (ceA x y v).size := by show _ = some 3; kernel_rfl
theorem one46a (x c : Int) (a : Option Addr) (n m : Nat) : (ceA x c (.slice a n m)).all (·.oneCell') = true := one46 _ _ _ _ _
theorem info39w (h : Int) (v u : Value) : (Tryz.prog.info? 39).map (·.size) = some (#[Value.int .i64 h,v,u] : Array Value).size := by show _ = some 3; kernel_rfl
theorem one39 (h : Int) (v : Value) (a : Option Addr) (n m : Nat) (hv : v.oneCell' = true) : (#[.int .i64 h,v,.slice a n m] : Array Value).all (·.oneCell') = true := by
 simp [Value.oneCell'] at hv ⊢; exact hv
theorem owns_slice {W : World} {base : Nat} {e : TypeId} {size : Nat} {v : Value} {n : Nat} {xs : List Value} (h : W.ownsRow base e size v n xs) : ∃ a c,v = .slice a n c := by
 rcases h.2 with ⟨rfl,rfl⟩ | ⟨g,cap,cur,rfl,-⟩
 ·exact ⟨none,0,rfl⟩
 ·exact ⟨_,cap,rfl⟩

theorem row_any (lo0 gc : Nat) (z : World) (ws : List Int) (ts : List ByteArray) (v : Value) (hn : ts.length = ws.length) (h8 : ws.length ≤ 8) (hts : ∀ t ∈ ts,cellB t = true) (hrm : ∀ i,i < ws.length → okS (roS (smI ws i) (ws.getD i 0)) = true)
  (w : World) (hC : SdI lo0 z gc ws ws.length w) (hT : StrsAt w v ts) : Calls Tryz.prog 29 #[.slice (some ⟨gc,0,none⟩) ws.length ws.length,v] w (RwEnd ws ts w) := by
 have hcol : Hid (∀ k,k < ws.length → ∀ W,Below w.heap.size w W → ∃ g5 g2 g3 : Nat,W.cell? ⟨gc,k,none⟩ = some (.func (.func 59) #[] #[.pointer (some ⟨g5,0,none⟩),.pointer (some ⟨g2,0,none⟩),.pointer (some ⟨g3,0,none⟩)]) ∧
   Calls Tryz.prog 59 #[.string (ts.getD k ⟨#[]⟩),.pointer (some ⟨g5,0,none⟩),.pointer (some ⟨g2,0,none⟩),.pointer (some ⟨g3,0,none⟩)] W (CcEnd (ts.getD k ⟨#[]⟩) (smI ws k) (ws.getD k 0) W)) := fun k hk W hb => by
  obtain ⟨g5,g2,g3,h1,h5,h2,h3⟩ := hC.col hk hb
  have hg : ts.getD k ⟨#[]⟩ = ts[k]'(by omega) := by rw [List.getD_eq_getElem?_getD,List.getElem?_eq_getElem (by omega)]; rfl
  exact ⟨g5,g2,g3,h1,cc_any _ (by rw [hg]; exact hts _ (List.getElem_mem _)) _ _ (hrm k hk) g5 g2 g3 W h5 h2 h3⟩
 have htx : Hid (∀ k,k < ws.length → ∀ W,Below w.heap.size w W → ∃ b o c,v = .slice (some ⟨b,o,none⟩) ws.length c ∧ W.cell? ⟨b,o + k,none⟩ = some (.string (ts.getD k ⟨#[]⟩))) := fun k hk W hb => by
  obtain ⟨a,cap,h1,h2⟩ := hT.ex
  rcases h2 with h2 | ⟨b,o,rfl,hlt,hc⟩
  ·subst h2; simp at hn; omega
  ·have hg : ts.getD k ⟨#[]⟩ = ts[k]'(by omega) := by rw [List.getD_eq_getElem?_getD,List.getElem?_eq_getElem (by omega)]; rfl
   exact ⟨b,o,cap,by rw [h1,hn],by rw [hg]; exact (hb.cell hlt).trans (hc k (by omega))⟩
 have hmx : Hid (∀ k,k ≤ ws.length → mxN ws ts k ≤ 402) := fun k hk => mxN_le hts k (by omega)
 have hln : Hid (∀ k,k < ws.length → (ceI ws ts k).length ≤ 402) := fun k hk => (ceI_len hts (by omega)).2
 obtain ⟨av,cv,rfl⟩ : ∃ a c,v = .slice a ws.length c := by
  obtain ⟨a,cap,h1,_⟩ := hT.ex
  exact ⟨a,cap,by rw [h1,hn]⟩
 have hB0 := (Below.refl w.heap.size w).alloc (Nat.le_refl _) (.cells #[.int .i64 0,.slice none 0 0,.slice none 0 0] 39)
 have k0 : Hid ((w.alloc (.cells #[.int .i64 0,.slice none 0 0,.slice none 0 0] 39)).heap[w.heap.size]? = some (.cells #[.int .i64 0,.slice none 0 0,.slice none 0 0] 39 (0,0))) := World.alloc_heap_new w _
 have hs1 : (w.alloc (.cells #[.int .i64 0,.slice none 0 0,.slice none 0 0] 39)).heap.size = w.heap.size + 1 := World.size_alloc _ _
 have hend : Hid (∀ r W,RwAt w.heap.size W r → RwIs ws ts r → Below w.heap.size w W → RwEnd ws ts w (.returned (.agg (rwL r).toArray)) W) := fun r W h1 h2 h3 => ⟨⟨r,rfl,h1,h2⟩,h3⟩
 generalize RwEnd ws ts w = E at *
 generalize hw1 : w.alloc (.cells #[.int .i64 0,.slice none 0 0,.slice none 0 0] 39) = w1 at *
 have hw1' : Hid (w.alloc (.cells #[.int .i64 0,.slice none 0 0,.slice none 0 0] 39) = w1) := hw1
 have hst := RcI.start w w1 ws ts ws.length hB0
 rw [hs1] at hst
 have hmk := make37 (n := ws.length) (by omega)
 have hs1h : Hid (w1.heap.size = w.heap.size + 1) := hs1
 have hk0 : Hid ((w1.alloc (.cells (noCes ws.length).toArray 46)).heap[w.heap.size]? = some (.cells #[.int .i64 0,.slice none 0 0,.slice none 0 0] 39 (0,0))) := (Below.heap_alloc _ _ _ (by rw [hs1]; omega)).trans k0.out
 have hnh : Hid (ts.length = ws.length) := hn
 clear hw1 hB0 k0 hs1 hC hT hrm hts hn
 go_enter Tryz.func29,Tryz.ntmps29
 go_wp2_with fail
 rw [hw1'.out]
 generalize w1.alloc (.cells (noCes ws.length).toArray 46) = w2 at *
 have hI0 : Hid (RcI (w.heap.size + 1 + 1) w (w.heap.size + 1) ws ts ws.length 0 w2 ∧ w2.heap[w.heap.size]? = some (.cells #[.int .i64 0,.slice none 0 0,.slice none 0 0] 39 (0,0))) := ⟨hst,hk0.out⟩
 clear hst hk0 hmk
 go_loopw [6,14] (fun v6 v14 wr => ∃ k : Nat,k ≤ ws.length ∧ v14 = .int .i64 (k : Int) ∧ v6 = .int .i64 (mxN ws ts k : Nat) ∧ Hid (RcI (w.heap.size + 1 + 1) w (w.heap.size + 1) ws ts ws.length k wr ∧ wr.heap[w.heap.size]? = some (.cells #[.int .i64 0,.slice none 0 0,.slice none 0 0] 39 (0,0)))) (fun _ v14 _ => ws.length - (intOf v14).toNat)
 case atStart => exact ⟨0,by omega,rfl,rfl,hI0⟩
 case round =>
  obtain ⟨k,hk,rfl,rfl,hI⟩ := hrel
  clear hI0
  by_cases hlt : k < ws.length
  ·have hlt' : (k : Int) < (ws.length : Int) := by omega
   obtain ⟨g5,g2,g3,hcl,hcall⟩ := hcol.out k hlt wr hI.out.1.low
   obtain ⟨b,o,c,hav,hsc⟩ := htx.out k hlt wr hI.out.1.low
   obtain ⟨rfl,-,rfl⟩ : av = some ⟨b,o,none⟩ ∧ ws.length = ws.length ∧ cv = c := by simpa using hav
   have hm1 := hmx.out k (by omega)
   have hm2 := hln.out k hlt
   have hm3 : Hid (mxN ws ts (k + 1) = max (mxN ws ts k) (ceI ws ts k).length) := rfl
   have hstp : Hid (∀ g W,wr.heap.size ≤ g → Below wr.heap.size wr W → LxsAt W (.slice (some ⟨g,0,none⟩) (ceI ws ts k).length (ceI ws ts k).length) (ceI ws ts k) → W.there (w.heap.size + 1) (k * 3) 3 ∧
     Hid (RcI (w.heap.size + 1 + 1) w (w.heap.size + 1) ws ts ws.length (k + 1) (W.setCells (w.heap.size + 1) (k * 3) (ceA (smI ws k) (ws.getD k 0) (.slice (some ⟨g,0,none⟩) (ceI ws ts k).length (ceI ws ts k).length)).toList) ∧ (W.setCells (w.heap.size + 1) (k * 3) (ceA (smI ws k) (ws.getD k 0) (.slice (some ⟨g,0,none⟩) (ceI ws ts k).length (ceI ws ts k).length)).toList).heap[w.heap.size]? = some (.cells #[.int .i64 0,.slice none 0 0,.slice none 0 0] 39 (0,0))) ∧
     (W.setCells (w.heap.size + 1) (k * 3) (ceA (smI ws k) (ws.getD k 0) (.slice (some ⟨g,0,none⟩) (ceI ws ts k).length (ceI ws ts k).length)).toList).cell? ⟨(w.heap.size + 1),k * 3 + 2,none⟩ = some (.slice (some ⟨g,0,none⟩) (ceI ws ts k).length (ceI ws ts k).length)) := fun g W hg hb hl => by
    have hRn := hI.out.1.next hb
    have hT1 : (w.heap.size + 1) + 1 ≤ wr.heap.size := by
     obtain ⟨d,_,hr,_⟩ := hI.out.1.ex
     exact hr.lt
    obtain ⟨h1,h2⟩ := hRn.step hlt (by omega) (Nat.lt_succ_self _)
    obtain ⟨h3,h4⟩ := h2 ⟨smI ws k,ws.getD k 0,.slice (some ⟨g,0,none⟩) (ceI ws ts k).length (ceI ws ts k).length,ceI ws ts k⟩ ⟨rfl,rfl,rfl⟩ ⟨g,by omega,rfl,hl⟩
    refine ⟨h1,⟨h3,?_⟩,h4⟩
    have ht := turns_setCells (X := fun j => j = (w.heap.size + 1)) rfl (ceA (smI ws k) (ws.getD k 0) (.slice (some ⟨g,0,none⟩) (ceI ws ts k).length (ceI ws ts k).length)).toList (k * 3) W
    have hb1 := hb.size
    rw [ht.block _ (by omega) (by omega),hb.block _ (by omega)]
    exact hI.out.2
   have hcc : Hid (Calls Tryz.prog 59 #[.string (ts.getD k ⟨#[]⟩),.pointer (some ⟨g5,0,none⟩),.pointer (some ⟨g2,0,none⟩),.pointer (some ⟨g3,0,none⟩)] wr fun e w' => (∃ g,wr.heap.size ≤ g ∧ e = .returned (.agg #[.int .i64 (smI ws k),.int .i64 (ws.getD k 0),.slice (some ⟨g,0,none⟩) (ceI ws ts k).length (ceI ws ts k).length]) ∧ LxsAt w' (.slice (some ⟨g,0,none⟩) (ceI ws ts k).length (ceI ws ts k).length) (ceI ws ts k)) ∧ Below wr.heap.size wr w') := hcall
   clear hcall hI hend hcol htx hmx hln hav
   generalize ts.getD k ⟨#[]⟩ = t at *
   generalize smI ws k = x at *
   generalize ws.getD k 0 = y at *
   generalize mxN ws ts k = M at *
   generalize ceI ws ts k = L at *
   go_wp2_with (first | (go_at_call 59; refine hcc.out.mono ?_; rintro e w4 ⟨⟨g,hg,rfl,hl⟩,hb4⟩; obtain ⟨q1,q2,q3⟩ := hstp.out g w4 hg hb4 hl; clear hl hb4 hcc hstp hcl hsc) | (refine wpList_store_mid rfl 46 _ _ rfl (w.heap.size + 1) (k * 3) (ceA x y (.slice (some ⟨g,0,none⟩) L.length L.length)) rfl rfl q1 (info46a _ _ _) (one46a _ _ _ _ _) ?_; clear q1; generalize w4.setCells (w.heap.size + 1) (k * 3) (ceA x y (.slice (some ⟨g,0,none⟩) L.length L.length)).toList = w5 at *))
   refine ⟨⟨k + 1,by omega,rfl,?_,q2.out⟩,by simp [intOf]; omega⟩
   rw [hm3.out]
   congr 1
   split <;> omega
  ·have hkn : k = ws.length := by omega
   subst hkn
   have hge : ¬ ((ws.length : Nat) : Int) < (ws.length : Int) := by omega
   have hm := hmx.out ws.length (Nat.le_refl _)
   have hsp : Hid (Calls Tryz.prog 47 #[.int .i64 (mxN ws ts ws.length : Nat)] wr (SpEnd (mxN ws ts ws.length) wr)) := splits_any _ (by omega) wr
   have hfin : Hid (∀ (a : Option Addr) (n c : Nat) W,W.ownsRow wr.heap.size 3 1 (.slice a n c) (spI (mxN ws ts ws.length - 1)).length ((spI (mxN ws ts ws.length - 1)).flatMap inL) → Below wr.heap.size wr W →
     W.heap[w.heap.size]? = some (.cells #[.int .i64 0,.slice none 0 0,.slice none 0 0] 39 (0,0)) ∧ Hid (E (.returned (.agg #[.int .i64 ((mxN ws ts ws.length : Nat) * 10 + 4),.slice a n c,.slice (some ⟨w.heap.size + 1,0,none⟩) ws.length ws.length])) (W.setRow w.heap.size #[.int .i64 ((mxN ws ts ws.length : Nat) * 10 + 4),.slice a n c,.slice (some ⟨w.heap.size + 1,0,none⟩) ws.length ws.length]))) := fun a n c W hu hb => by
    obtain ⟨d,hd,hr,hc⟩ := hI.out.1.ex
    have hsz := hI.out.1.low.size
    have hT1 : w.heap.size + 1 < wr.heap.size := hr.lt
    have hb1 := hb.size
    rw [hd,Nat.sub_self,List.replicate_zero,List.append_nil] at hr
    have ht := Turns.setRow (X := fun j => j = w.heap.size) W (r := w.heap.size) rfl #[.int .i64 ((mxN ws ts ws.length : Nat) * 10 + 4),.slice a n c,.slice (some ⟨w.heap.size + 1,0,none⟩) ws.length ws.length]
    refine ⟨(hb.block _ (by omega)).trans hI.out.2,?_⟩
    have hR : RwAt (w.heap.size + 1) W ⟨(mxN ws ts ws.length : Nat) * 10 + 4,.slice a n c,spI (mxN ws ts ws.length - 1),.slice (some ⟨w.heap.size + 1,0,none⟩) ws.length ws.length,d⟩ :=
     ⟨ownsRow_base hu (by omega),⟨w.heap.size + 1,Nat.le_refl _,by show _ = Value.slice _ d.length d.length; rw [hd],hr.below hb hr.lt⟩,fun q hq => by
      obtain ⟨i,hi,rfl⟩ := List.getElem_of_mem hq
      exact ((hc i hi).2.below hb (Nat.le_refl _)).lo (by omega)⟩
    have hlow := hI.out.1.low.trans (hb.mono hsz)
    exact hend.out ⟨(mxN ws ts ws.length : Nat) * 10 + 4,.slice a n c,spI (mxN ws ts ws.length - 1),.slice (some ⟨w.heap.size + 1,0,none⟩) ws.length ws.length,d⟩ _ ((hR.turns ht (fun j hj e => by omega)).lo (by omega))
     ⟨by rw [hnh.out]; show ((mxN ws ts ws.length : Nat) : Int) * 10 + 4 = _; omega,by rw [hnh.out],by rw [hnh.out]; exact hd,fun i hi => (hc i hi).1⟩ (hlow.trans (ht.below hlow.size (fun j hj => by omega)))
   clear hI hend hcol htx hmx hln
   generalize mxN ws ts ws.length = M at *
   go_wp2_with (first | (go_at_call 47; refine hsp.out.mono ?_; rintro e w4 ⟨⟨u,rfl,hu⟩,hb4⟩; obtain ⟨ua,uc,rfl⟩ := owns_slice hu; obtain ⟨j0,hfn⟩ := hfin.out ua _ uc w4 hu hb4; clear hu hb4 hfin hsp) | (refine wpList_store_row rfl 39 _ _ rfl w.heap.size #[.int .i64 ((M : Nat) * 10 + 4),.slice ua (spI (M - 1)).length uc,.slice (some ⟨w.heap.size + 1,0,none⟩) ws.length ws.length] rfl rfl 39 _ j0 (info39w _ _ _) rfl (one39 _ _ _ _ _ rfl) ?_))
   exact bodyPost_ret (results_cell_row rfl _ _ w.heap.size 39 _ (0,0) _ rfl (setRow_heap _ _ _ _ _ _ j0) Tryz.underlying39 rfl (info39w _ _ _)) rfl hfn.out
end Go.Proofs.YtaphggjakaghjaaGreatDoor

namespace Go.Proofs.YtaphggjakaghjaaGreatDoor
open Go.RowKit Go.Shelf
set_option maxRecDepth 100000
set_option maxHeartbeats 2000000

def ckT (l : List ByteArray) (c i : Nat) : List ByteArray := (l.drop (i * c)).take c
theorem chk_len {l : List ByteArray} {c i : Nat} (h : (i + 1) * c ≤ l.length) : (ckT l c i).length = c := by
 have e : (i + 1) * c = i * c + c := Nat.succ_mul _ _
 unfold ckT
 rw [List.length_take,List.length_drop]
 omega
theorem chk_get {l : List ByteArray} {c i : Nat} (h : (i + 1) * c ≤ l.length) {j : Nat} (hj : j < c) : ∃ (h1 : j < (ckT l c i).length) (h2 : i * c + j < l.length),(ckT l c i)[j] = l[i * c + j] := by
 have e : (i + 1) * c = i * c + c := Nat.succ_mul _ _
 refine ⟨by rw [chk_len h]; exact hj,by omega,?_⟩
 have h1 : j < ((l.drop (i * c)).take c).length := by rw [List.length_take,List.length_drop]; omega
 have e : ((l.drop (i * c)).take c)[j]'h1 = l[i * c + j]'(by omega) := by rw [List.getElem_take,List.getElem_drop]
 exact e
def chV (b o c i : Nat) : Value := .slice (some ⟨b,o + i * c,none⟩) c c
theorem chk_strs {W : World} {b o cap : Nat} {l : List ByteArray} (h : StrsAt W (.slice (some ⟨b,o,none⟩) l.length cap) l) {c i : Nat} (hi : (i + 1) * c ≤ l.length) (hc : 0 < c) : StrsAt W (chV b o c i) (ckT l c i) := by
 have e : (i + 1) * c = i * c + c := Nat.succ_mul _ _
 obtain ⟨a,cap',h1,h2⟩ := h.ex
 cases h1
 rcases h2 with h2 | ⟨g,o',e1,hlt,hcl⟩
 ·subst h2; simp at hi; omega
 ·cases e1
  refine ⟨⟨_,c,by rw [chk_len hi]; rfl,.inr ⟨b,o + i * c,rfl,hlt,fun j hj => ?_⟩⟩,fun a n c' e => by cases e; exact Nat.le_refl _⟩
  rw [chk_len hi] at hj
  obtain ⟨h1,h2,h3⟩ := chk_get hi hj
  rw [h3,Nat.add_assoc]
  exact hcl _ h2
theorem sl22l (b o n cap f : Nat) (h1 : f ≤ n) (_h2 : n ≤ cap) : ∃ a',∀ W : World,(Instr.slice 22 (.slice (some ⟨b,o,none⟩) n cap) (some (.int .i64 (f : Int))) none none).run Tryz.prog W = .ok (.slice a' (n - f) (cap - f)) W := by
 have he : Tryz.prog.elem 22 = 9 := by kernel_rfl
 have hu : Tryz.prog.underlying 22 = some (.slice (Tryz.prog.elem 22)) := by rw [he]; exact Tryz.underlying22
 have hr := fun W => run_slice_l (P := Tryz.prog) (w := W) 22 (some ⟨b,o,none⟩) n cap hu .i64 f (by omega) (by omega)
 have hs : ∀ W,(sizeOf (Tryz.prog.elem 22)).run Tryz.prog W = .ok 1 W := fun W => by kernel_rfl
 simp only [hs,Result.andThen,sliced,Int.toNat_natCast] at hr
 exact ⟨_,hr⟩
theorem sl22x (b o n cap f c : Nat) (hc : 0 < c) (h1 : f + c ≤ cap) : ∀ W : World,(Instr.slice 22 (.slice (some ⟨b,o,none⟩) n cap) (some (.int .i64 (f : Int))) (some (.int .i64 ((f + c : Nat) : Int))) (some (.int .i64 ((f + c : Nat) : Int)))).run Tryz.prog W = .ok (.slice (some ⟨b,o + f,none⟩) c c) W := by
 have he : Tryz.prog.elem 22 = 9 := by kernel_rfl
 have hu : Tryz.prog.underlying 22 = some (.slice (Tryz.prog.elem 22)) := by rw [he]; exact Tryz.underlying22
 have hr := fun W => run_slice_lhm (P := Tryz.prog) (w := W) 22 (some ⟨b,o,none⟩) n cap hu .i64 .i64 .i64 f ((f + c : Nat) : Int) ((f + c : Nat) : Int) (by omega) (by omega) (by omega) (by omega)
 have hs : ∀ W,(sizeOf (Tryz.prog.elem 22)).run Tryz.prog W = .ok 1 W := fun W => by kernel_rfl
 simp only [hs,Result.andThen,sliced,Int.toNat_natCast] at hr
 intro W
 have e1 : f + c - f = c := by omega
 have := hr W
 rw [if_neg (by omega),e1] at this
 rw [this]
 simp [addr_add]

theorem chunk_any (c : Nat) (hc : 1 ≤ c ∧ c ≤ 8) (a : Option Addr) (n cap : Nat) (w : World) : Calls Tryz.prog 28 #[.slice a n cap,.int .i64 (c : Nat)] w fun e w' => e = .returned (.func (.func 46) #[] #[.pointer (some ⟨w.heap.size,0,none⟩),.pointer (some ⟨w.heap.size + 1,0,none⟩)]) ∧ w' = (w.alloc (.cells #[.slice a n cap] 22)).alloc (.cells #[.int .i64 (c : Nat)] 3) := by
 obtain ⟨h1,h2⟩ := hc
 go_enter Tryz.func28,Tryz.ntmps28
 go_wp2_with fail
 go_ret
 exact ⟨rfl,rfl⟩
structure ReadK (B c b o cap : Nat) (l : List ByteArray) (W : World) : Prop where
 b0 : W.heap[B]? = some (.cells #[.slice (some ⟨b,o,none⟩) l.length cap] 22 (0,0))
 b1 : W.heap[B + 1]? = some (.cells #[.int .i64 (c : Nat)] 3 (0,0))
def encK (b o c : Nat) (i : Nat) : Array Value := #[chV b o c i]
theorem chunk1_gives (B c N b o cap : Nat) (l : List ByteArray) (hc : 1 ≤ c ∧ c ≤ 8) (hN : l.length = N * c) (hl : l.length ≤ 64) (hcap : l.length ≤ cap) :
  Gives Tryz.prog 46 #[.pointer (some ⟨B,0,none⟩),.pointer (some ⟨B + 1,0,none⟩)] N (encK b o c) (ReadK B c b o cap l) := by
 intro lo J Jx W hJ hJx hRd hY h0
 refine callsIn_wide (n := 0).1 ?_
 refine callsIn_of_wp Tryz.func46 rfl trivial ?_ rfl
 simp only [Tryz.ntmps46,List.size_toArray,List.length_cons,List.length_nil,Nat.reduceAdd,Nat.reduceSub,Array.replicate_succ,Array.replicate_zero,List.push_toArray,List.append_toArray,List.nil_append,List.cons_append]
 obtain ⟨n1,n2⟩ := hc
 have hfin : Hid (∀ X W',J N X W' → J N Noth W') := fun X W' h => hJ _ _ _ _ _ h (Turns.refl _ _) (fun _ h => h.elim)
 gi_wp2
 gi_loopw [4] (fun q wr => ∃ (k : Nat) (X : Nat → Prop),k ≤ N ∧ q = .int .i64 ((k * c : Nat) : Int) ∧ J k X wr) (fun q _ => l.length - (intOf q).toNat)
 case atStart => exact ⟨0,Noth,Nat.zero_le _,by rw [Nat.zero_mul]; rfl,h0⟩
 case round =>
  obtain ⟨k,X,hk,rfl,hJs⟩ := hrel
  have hR := hRd _ _ _ hJs
  have t0 : wr.cell? ⟨B,0,none⟩ = some (.slice (some ⟨b,o,none⟩) l.length cap) := by rw [Lib.cell_of_heap hR.b0]; rfl
  have t1 : wr.cell? ⟨B + 1,0,none⟩ = some (.int .i64 (c : Nat)) := by rw [Lib.cell_of_heap hR.b1]; rfl
  by_cases hlt : k < N
  ·have hm : (k + 1) * c ≤ N * c := Nat.mul_le_mul_right c hlt
   have hm2 : (k + 1) * c = k * c + c := Nat.succ_mul _ _
   have hlt' : ((k * c : Nat) : Int) < (l.length : Int) := by omega
   obtain ⟨a',hs1⟩ := sl22l b o l.length cap (k * c) (by omega) hcap
   have hs2 := sl22x b o l.length cap (k * c) c (by omega) (by omega)
   have hYk := fun (W1 : World) (h : Below wr.heap.size wr W1) => hY k X W1 hlt (hJ _ _ _ _ _ hJs (Turns.of_below h |>.mono (fun _ h => h.elim)) (fun _ h => .inl h))
   unfold encK chV at hYk
   have hrest : (c : Int) ≤ ((l.length - k * c : Nat) : Int) := by omega
   have hnx : Hid (((k + 1) * c : Nat) = k * c + c) := hm2
   have hall : Hid (l.length = N * c ∧ k < N) := ⟨hN,hlt⟩
   have hrd : Hid (∀ W,J (k + 1) X W → W.cell? ⟨B + 1,0,none⟩ = some (.int .i64 (c : Nat))) := fun W h => by rw [Lib.cell_of_heap (hRd _ _ _ h).b1]; rfl
   clear hRd hY hJs hR h0 hm hm2 hN
   generalize k * c = f at *
   gi_wp2_with fail
   gi_big_quiet_th (fail)
   rename_i nq
   obtain ⟨fn,tmps,assign,body,hy,hR⟩ := hYk (wr.drewN nq) ⟨rfl,rfl,rfl,Nat.le_refl _,fun _ _ => rfl⟩
   have q0 : (wr.drewN nq).cell? ⟨B,0,none⟩ = some (.slice (some ⟨b,o,none⟩) l.length cap) := t0
   have efc : f + c - f = c := by omega
   clear hYk
   gi_wp2_with fail
   refine ⟨rfl,hR.mono ?_⟩
   rintro e W3 ⟨hk3,(⟨rfl,hJ3⟩ | ⟨rfl,hJx3⟩)⟩
   ·have t3 := hrd.out W3 hJ3
    clear t0 t1 q0 hR hy
    gi_wp2
    go_roundw
    case rel => exact ⟨k + 1,X,by omega,by rw [hnx.out]; rfl,hJ3⟩
    case measure => simp [intOf]; omega
   ·gi_wp2
    refine bodyPost_ret (results_none rfl _ _ _) rfl ?_
    exact ⟨⟨_,rfl⟩,.inr ⟨k,hlt,hJx _ _ _ _ _ hJx3 (Turns.refl _ _) (fun _ h => h.elim)⟩⟩
  ·obtain rfl : k = N := by omega
   have hJe := hfin.out X wr hJs
   have hge : ¬ ((k * c : Nat) : Int) < (l.length : Int) := by omega
   clear hRd hY hJs hR h0
   gi_wp2
   go_end0
   exact ⟨⟨_,rfl⟩,.inl hJe⟩
end Go.Proofs.YtaphggjakaghjaaGreatDoor

namespace Go.Proofs.YtaphggjakaghjaaGreatDoor
open Go.RowKit Go.Shelf
set_option maxRecDepth 100000
set_option maxHeartbeats 2000000
attribute [local go_sem] Oper.semAt_some wide_fn wide_depth

theorem buildR (r : Rw) (W : World) : (Instr.buildSlice 27 1 #[(0,.agg (rwL r).toArray)]).run Tryz.prog W = .ok (.slice (some ⟨W.heap.size,0,none⟩) 1 1) (W.alloc (.cells (rwL r).toArray 39)) := by
 obtain ⟨h,sv,sp,cv,cs⟩ := r
 kernel_rfl
theorem wpIn_app_run {F : Fence} {n : Nat} {P : Program} {o : Oper} {a : Act} {w : World} {K : Act → World → Prop} {Q : Exit → Act → World → Prop} (s x : Operand) (t : TypeId) (hop : o.op = Op.call { callee := Callee.builtin Builtin.append,args := #[s,x],argTypes := #[t,t] })
  (v u v' : Value) (w' : World) (hs : a.eval s = v) (hx : a.eval x = u) (hrun : (Builtin.append_ #[t,t] o.type #[v,u]).run P w = .ok v' w') (hK : K (a.put o.dst v') w') : o.wpIn F n P a w K Q := by
 unfold Oper.wpIn
 refine ⟨?_,?_⟩
 ·simp [Oper.about,hop,resolve,Target.leads,Sem.run_pure]
 ·rw [Oper.semAt_plain F _ _ (by rw [hop]; intro c hc'; cases hc')]
  simp [execOp,hop,resolve,invoke,builtin,hs,hx,hrun,Result.andThen]
  exact hK
theorem wpIn_buildR {F : Fence} {n : Nat} {o : Oper} {a : Act} {w : World} {K : Act → World → Prop} {Q : Exit → Act → World → Prop} (y : Operand) (hop : o.op = .buildSlice 27 1 #[(0,y)]) (r : Rw) (hy : a.eval y = .agg (rwL r).toArray)
  (hK : K (a.put o.dst (.slice (some ⟨w.heap.size,0,none⟩) 1 1)) (w.alloc (.cells (rwL r).toArray 39))) : o.wpIn F n Tryz.prog a w K Q := by
 have hr := buildR r w
 unfold Oper.wpIn
 refine ⟨?_,?_⟩
 ·simp [Oper.about,hop]
 ·rw [Oper.semAt_plain F _ _ (by rw [hop]; intro c hc'; cases hc')]
  unfold execOp
  simp only [hop,List.map_toArray,List.map_cons,List.map_nil,hy,Sem.run_bind,Sem.run_pure,Result.andThen_ok,hr]
  exact hK
def opR8 (ps : String) : Array Oper := #[⟨some 30,.load 27 (.tmp 10),27,ps,#[],none⟩,⟨some 31,.load 59 (.tmp 9),59,ps,#[],none⟩,⟨some 32,.move (.tmp 11),22,ps,#[],none⟩,⟨some 33,.call ⟨.value (.func 29),#[.tmp 31,.tmp 32],#[59,22]⟩,39,ps,#[⟨1,.data⟩,⟨2,.data⟩],none⟩,⟨some 34,.buildSlice 27 1 #[(0,.tmp 33)],27,ps,#[⟨3,.data⟩],none⟩,⟨some 35,.call ⟨.builtin .append,#[.tmp 30,.tmp 34],#[27,27]⟩,27,ps,#[⟨0,.data⟩,⟨4,.data⟩,⟨3,.chain⟩],none⟩,⟨none,.store 27 (.tmp 10) (.tmp 35),0,ps,#[⟨5,.data⟩,⟨5,.chain⟩,⟨0,.phase⟩,⟨1,.phase⟩,⟨2,.phase⟩,⟨3,.phase⟩,⟨4,.phase⟩,⟨5,.phase⟩],none⟩]

theorem rws_r8 (Q : Exit → Act → World → Prop) (hQ : ∀ c x (n : Nat) v w,Q (.panic c) (x.put (some n) v) w → Q (.panic c) x w) (id : Nat) (ps : String) (lo U C : Nat) (u vc vt : Value) (H : Rw → World → Prop) (v0 v1 v2 v3 v4 v5 v6 v7 v8 xa xb xc xd xe xf xg xh xi xj xk xl xm xn xo xp xq xr xt : Value) (W : World)
  (hU : W.heap[U]? = some (.cells #[u] 27 (0,0))) (hC : W.heap[C]? = some (.cells #[vc] 59 (0,0)))
  (hN : Calls Tryz.prog 29 #[vc,vt] W.drew fun e w' => ∃ r,e = .returned (.agg (rwL r).toArray) ∧ H r w' ∧ Below W.heap.size W.drew w')
  (hA : ∀ r w1,H r w1 → Below W.heap.size W.drew w1 → ∃ (a' : Option Addr) (n' c' : Nat) (w2 : World),(Builtin.append_ #[27,27] 27 #[u,.slice (some ⟨w1.heap.size,0,none⟩) 1 1]).run Tryz.prog (w1.alloc (.cells (rwL r).toArray 39)) = .ok (.slice a' n' c') w2 ∧
   w2.cell? ⟨U,0,none⟩ = some u ∧ w2.frozen? ⟨U,0,none⟩ = false ∧ Q .normal { tmps := #[v0,v1,v2,v3,v4,v5,v6,v7,v8,.pointer (some ⟨C,0,none⟩),.pointer (some ⟨U,0,none⟩),vt,xa,xb,xc,xd,xe,xf,xg,xh,xi,xj,xk,xl,xm,xn,xo,xp,xq,xr,u,vc,vt,.agg (rwL r).toArray,.slice (some ⟨w1.heap.size,0,none⟩) 1 1,(.slice a' n' c'),xt],defers := [] } (w2.setCell ⟨U,0,none⟩ (.slice a' n' c'))) :
  (Code.region id (opR8 ps) true).wpIn (Fence.wide.inRound lo) 0 Tryz.prog Q { tmps := #[v0,v1,v2,v3,v4,v5,v6,v7,v8,.pointer (some ⟨C,0,none⟩),.pointer (some ⟨U,0,none⟩),vt,xa,xb,xc,xd,xe,xf,xg,xh,xi,xj,xk,xl,xm,xn,xo,xp,xq,xr,undef,undef,undef,undef,undef,undef,xt],defers := [] } W := by
 have hmx : Tryz.prog.follows .mixedOrders = true := by kernel_rfl
 refine wpIn_region_round rfl hmx (by kernel_rfl) ?_
 rw [show W.heap.size = W.drew.heap.size from rfl] at hN hA
 have hd : W.drew.heap = W.heap := rfl
 generalize W.drew = V at *
 have hU' : V.heap[U]? = some (.cells #[u] 27 (0,0)) := by rw [hd]; exact hU
 have hC' : V.heap[C]? = some (.cells #[vc] 59 (0,0)) := by rw [hd]; exact hC
 have c5 : V.cell? ⟨U,0,none⟩ = some u := by rw [Lib.cell_of_heap hU']; rfl
 have c6 : V.cell? ⟨C,0,none⟩ = some vc := by rw [Lib.cell_of_heap hC']; rfl
 have hlU := (Array.getElem?_eq_some_iff.1 hU').1
 unfold opR8
 refine wpAnyIn_take (i := 2) (v := vt) rfl rfl (by kernel_rfl) (by kernel_rfl) (by kernel_rfl) (fun c x w => hQ c x _ _ w) ⟨Or.inl ⟨by rfl,?y1⟩,fun _ => rfl⟩ ?_
 case y1 => (intro w; go_simp)
 go_simp
 refine wpAnyIn_ready (rs := [0,1]) (by kernel_rfl) (by simp) ?_
 refine AllReadyIn.cons rfl (fun K hK => ?_) (AllReadyIn.cons rfl (fun K hK => ?_) AllReadyIn.nil)
 ·go_simp
  refine hK _ _ ?_
  clear hK K
  go_simp
  refine wpAnyIn_ready (rs := [1]) (by kernel_rfl) (by simp) ?_
  refine AllReadyIn.cons rfl (fun K hK => ?_) AllReadyIn.nil
  go_simp
  refine hK _ _ ?_
  clear hK K
  go_simp
  refine wpAnyIn_ready (rs := [3]) (by kernel_rfl) (by simp) ?_
  refine AllReadyIn.cons rfl (fun K hK => ?_) AllReadyIn.nil
  go_simp
  refine (callsIn_wide.2 hN).mono ?_
  rintro e w1 ⟨r,rfl,hH,hbl⟩
  have d5 : w1.cell? ⟨U,0,none⟩ = some u := by rw [Lib.cell_of_heap ((hbl.block U hlU).trans hU')]; rfl
  have e5 : (w1.alloc (.cells (rwL r).toArray 39)).cell? ⟨U,0,none⟩ = some u := by rw [Lib.cell_of_heap ((Below.heap_alloc _ _ _ (Nat.lt_of_lt_of_le hlU hbl.size)).trans ((hbl.block U hlU).trans hU'))]; rfl
  obtain ⟨a',n',c',w2,hrun,y5,z5,hQ1⟩ := hA r w1 hH hbl
  have hbs := buildR r w1
  clear hH hbl
  refine hK _ _ ?_
  clear hK K
  go_simp
  refine wpAnyIn_ready (rs := [4]) (by kernel_rfl) (by simp) ?_
  refine AllReadyIn.cons rfl (fun K hK => ?_) AllReadyIn.nil
  rw [if_pos (by rfl)]
  refine wpIn_buildR _ rfl r rfl ?_
  refine hK _ _ ?_
  clear hK K
  simp only [Act.put,Array.setIfInBounds,List.size_toArray,List.length_cons,List.length_nil,Nat.reduceAdd,List.set_toArray]
  refine wpAnyIn_ready (rs := [5]) (by kernel_rfl) (by simp) ?_
  refine AllReadyIn.cons rfl (fun K hK => ?_) AllReadyIn.nil
  rw [if_pos (by rfl)]
  refine wpIn_app_run _ _ 27 rfl _ _ (.slice a' n' c') w2 rfl rfl hrun ?_
  refine hK _ _ ?_
  clear hK K
  go_simp
  refine wpAnyIn_ready (rs := [6]) (by kernel_rfl) (by simp) ?_
  refine AllReadyIn.cons rfl (fun K hK => ?_) AllReadyIn.nil
  go_simp
  refine hK _ _ ?_
  clear hK K
  go_simp
  exact wpAnyIn_done (by kernel_rfl) hQ1 _
 ·go_simp
  refine hK _ _ ?_
  clear hK K
  go_simp
  refine wpAnyIn_ready (rs := [0,3]) (by kernel_rfl) (by simp) ?_
  refine AllReadyIn.cons rfl (fun K hK => ?_) (AllReadyIn.cons rfl (fun K hK => ?_) AllReadyIn.nil)
  ·go_simp
   refine hK _ _ ?_
   clear hK K
   go_simp
   refine wpAnyIn_ready (rs := [3]) (by kernel_rfl) (by simp) ?_
   refine AllReadyIn.cons rfl (fun K hK => ?_) AllReadyIn.nil
   go_simp
   refine (callsIn_wide.2 hN).mono ?_
   rintro e w1 ⟨r,rfl,hH,hbl⟩
   have d5 : w1.cell? ⟨U,0,none⟩ = some u := by rw [Lib.cell_of_heap ((hbl.block U hlU).trans hU')]; rfl
   have e5 : (w1.alloc (.cells (rwL r).toArray 39)).cell? ⟨U,0,none⟩ = some u := by rw [Lib.cell_of_heap ((Below.heap_alloc _ _ _ (Nat.lt_of_lt_of_le hlU hbl.size)).trans ((hbl.block U hlU).trans hU'))]; rfl
   obtain ⟨a',n',c',w2,hrun,y5,z5,hQ1⟩ := hA r w1 hH hbl
   have hbs := buildR r w1
   clear hH hbl
   refine hK _ _ ?_
   clear hK K
   go_simp
   refine wpAnyIn_ready (rs := [4]) (by kernel_rfl) (by simp) ?_
   refine AllReadyIn.cons rfl (fun K hK => ?_) AllReadyIn.nil
   rw [if_pos (by rfl)]
   refine wpIn_buildR _ rfl r rfl ?_
   refine hK _ _ ?_
   clear hK K
   simp only [Act.put,Array.setIfInBounds,List.size_toArray,List.length_cons,List.length_nil,Nat.reduceAdd,List.set_toArray]
   refine wpAnyIn_ready (rs := [5]) (by kernel_rfl) (by simp) ?_
   refine AllReadyIn.cons rfl (fun K hK => ?_) AllReadyIn.nil
   rw [if_pos (by rfl)]
   refine wpIn_app_run _ _ 27 rfl _ _ (.slice a' n' c') w2 rfl rfl hrun ?_
   refine hK _ _ ?_
   clear hK K
   go_simp
   refine wpAnyIn_ready (rs := [6]) (by kernel_rfl) (by simp) ?_
   refine AllReadyIn.cons rfl (fun K hK => ?_) AllReadyIn.nil
   go_simp
   refine hK _ _ ?_
   clear hK K
   go_simp
   exact wpAnyIn_done (by kernel_rfl) hQ1 _
  ·go_simp
   refine (callsIn_wide.2 hN).mono ?_
   rintro e w1 ⟨r,rfl,hH,hbl⟩
   have d5 : w1.cell? ⟨U,0,none⟩ = some u := by rw [Lib.cell_of_heap ((hbl.block U hlU).trans hU')]; rfl
   have e5 : (w1.alloc (.cells (rwL r).toArray 39)).cell? ⟨U,0,none⟩ = some u := by rw [Lib.cell_of_heap ((Below.heap_alloc _ _ _ (Nat.lt_of_lt_of_le hlU hbl.size)).trans ((hbl.block U hlU).trans hU'))]; rfl
   obtain ⟨a',n',c',w2,hrun,y5,z5,hQ1⟩ := hA r w1 hH hbl
   have hbs := buildR r w1
   clear hH hbl
   refine hK _ _ ?_
   clear hK K
   go_simp
   refine wpAnyIn_ready (rs := [0,4]) (by kernel_rfl) (by simp) ?_
   refine AllReadyIn.cons rfl (fun K hK => ?_) (AllReadyIn.cons rfl (fun K hK => ?_) AllReadyIn.nil)
   ·go_simp
    refine hK _ _ ?_
    clear hK K
    go_simp
    refine wpAnyIn_ready (rs := [4]) (by kernel_rfl) (by simp) ?_
    refine AllReadyIn.cons rfl (fun K hK => ?_) AllReadyIn.nil
    rw [if_pos (by rfl)]
    refine wpIn_buildR _ rfl r rfl ?_
    refine hK _ _ ?_
    clear hK K
    simp only [Act.put,Array.setIfInBounds,List.size_toArray,List.length_cons,List.length_nil,Nat.reduceAdd,List.set_toArray]
    refine wpAnyIn_ready (rs := [5]) (by kernel_rfl) (by simp) ?_
    refine AllReadyIn.cons rfl (fun K hK => ?_) AllReadyIn.nil
    rw [if_pos (by rfl)]
    refine wpIn_app_run _ _ 27 rfl _ _ (.slice a' n' c') w2 rfl rfl hrun ?_
    refine hK _ _ ?_
    clear hK K
    go_simp
    refine wpAnyIn_ready (rs := [6]) (by kernel_rfl) (by simp) ?_
    refine AllReadyIn.cons rfl (fun K hK => ?_) AllReadyIn.nil
    go_simp
    refine hK _ _ ?_
    clear hK K
    go_simp
    exact wpAnyIn_done (by kernel_rfl) hQ1 _
   ·rw [if_pos (by rfl)]
    refine wpIn_buildR _ rfl r rfl ?_
    refine hK _ _ ?_
    clear hK K
    simp only [Act.put,Array.setIfInBounds,List.size_toArray,List.length_cons,List.length_nil,Nat.reduceAdd,List.set_toArray]
    refine wpAnyIn_ready (rs := [0]) (by kernel_rfl) (by simp) ?_
    refine AllReadyIn.cons rfl (fun K hK => ?_) AllReadyIn.nil
    go_simp
    refine hK _ _ ?_
    clear hK K
    go_simp
    refine wpAnyIn_ready (rs := [5]) (by kernel_rfl) (by simp) ?_
    refine AllReadyIn.cons rfl (fun K hK => ?_) AllReadyIn.nil
    rw [if_pos (by rfl)]
    refine wpIn_app_run _ _ 27 rfl _ _ (.slice a' n' c') w2 rfl rfl hrun ?_
    refine hK _ _ ?_
    clear hK K
    go_simp
    refine wpAnyIn_ready (rs := [6]) (by kernel_rfl) (by simp) ?_
    refine AllReadyIn.cons rfl (fun K hK => ?_) AllReadyIn.nil
    go_simp
    refine hK _ _ ?_
    clear hK K
    go_simp
    exact wpAnyIn_done (by kernel_rfl) hQ1 _
end Go.Proofs.YtaphggjakaghjaaGreatDoor
