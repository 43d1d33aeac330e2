/-
  What is proved here: what reach of least answers where nothing is open; what end and limit answer where no way is known.
  What is proved here: what level of least does.
  What is proved here: what level of least does where no line leads to a break.
-/
import Derived.Test.YtfiekhephkpdjaaGreatDoorG29
namespace Go.Proofs.YtfiekhephkpdjaaGreatDoor
open Go.RowKit Go.Shelf
set_option maxRecDepth 100000
set_option maxHeartbeats 4000000

theorem reach_nil (P : Pl) (a : Option Addr) (cp : Nat) (b : Nat) (wd : Int) (w : World) : Calls Tryz.prog 141 #[.pointer (some ⟨P.B,0,none⟩),.slice a 0 cp,.int .i64 b,.int .i64 wd] w fun e w' => e = .returned (.tuple #[.agg (wyL wy0).toArray,.bool false]) ∧ Below w.heap.size w w' := by
 have hlow : Hid (Below w.heap.size w ((w.alloc (.cells #[.int .i64 0,.int .i64 0,.int .i64 0] 141)).alloc (.cells #[.int .i64 0,.int .i64 0,.int .i64 0] 141))) := below2 w _ _
 have r0 : ((w.alloc (.cells #[.int .i64 0,.int .i64 0,.int .i64 0] 141)).alloc (.cells #[.int .i64 0,.int .i64 0,.int .i64 0] 141)).heap[w.heap.size]? = some (.cells (wyL wy0).toArray 141 (0,0)) := (Below.heap_alloc _ _ _ (by simp)).trans (World.alloc_heap_new w _)
 have hm : ((w.alloc (.cells #[.int .i64 0,.int .i64 0,.int .i64 0] 141)).alloc (.cells #[.int .i64 0,.int .i64 0,.int .i64 0] 141)).heap[w.heap.size + 1]? = some (.cells (wyL wy0).toArray 141 (0,0)) := alloc2_heap w _ _
 go_enter Tryz.func141,Tryz.ntmps141
 go_wp2_with fail
 generalize ((w.alloc (.cells #[.int .i64 0,.int .i64 0,.int .i64 0] 141)).alloc (.cells #[.int .i64 0,.int .i64 0,.int .i64 0] 141)) = wz at *
 go_loopw [11,19] (fun v11 v19 wr => v11 = .bool false ∧ v19 = .int .i64 0 ∧ wr = wz) (fun _ _ _ => 0)
 case atStart => exact ⟨rfl,rfl,rfl⟩
 case round =>
  obtain ⟨rfl,rfl,hw⟩ := hrel
  subst hw
  go_wp2_with (first | (refine wpList_load_row rfl 141 _ rfl (w.heap.size + 1) rfl 141 _ (0,0) _ hm Tryz.underlying141 rfl (info58 _) ?_) | (refine wpList_store_row rfl 141 _ _ rfl w.heap.size (wyL wy0).toArray rfl rfl 141 _ r0 (info58 _) rfl (wyL_all _) ?_))
  exact bodyPost_ret (results_cell_row2 rfl _ _ w.heap.size 141 _ (0,0) _ rfl (setRow_heap _ _ _ _ _ _ r0) Tryz.underlying141 rfl (info58 _)) rfl ⟨rfl,hlow.out.trans ((Turns.setRow (X := fun k => k = w.heap.size) _ rfl _).below hlow.out.size (fun k hk => by omega))⟩
theorem pend_none (P : Pl) (f : Nat × Nat → Option Wy) (M : Nat) (hs : 0 < P.sts.length ∧ P.sts.length ≤ 8193) (hw : 0 < P.wds.length ∧ P.wds.length ≤ 257) (h0 : ∀ n,n < P.wds.length → f (P.sts.length - 1,n) = none) (w : World) (hP : PlM P f M w) : Calls Tryz.prog 67 #[.pointer (some ⟨P.B,0,none⟩)] w fun e w' => e = .returned (.tuple #[.agg #[.int .i64 0,.int .i64 0,.int .i64 0],.bool false]) ∧ Below w.heap.size w w' := by
 have hw2 : (P.wds.length : Int) ≤ 257 := by omega
 have hl1 : (1 : Int) ≤ P.sts.length := by omega
 have hl2 : (P.sts.length : Int) ≤ 9000 := by omega
 have hm9 : Hid ((P.sts.length : Int) - 1 = ((P.sts.length - 1 : Nat) : Int)) := by show _ = _; omega
 have hb0 := (Below.refl w.heap.size w).alloc (Nat.le_refl _) (.cells #[.int .i64 0,.int .i64 0,.int .i64 0] 141)
 have hI0 : Hid (Below w.heap.size w (w.alloc (.cells #[.int .i64 0,.int .i64 0,.int .i64 0] 141)) ∧ (w.alloc (.cells #[.int .i64 0,.int .i64 0,.int .i64 0] 141)).heap[w.heap.size]? = some (.cells (wyL wy0).toArray 141 (0,0))) := ⟨hb0,World.alloc_heap_new w _⟩
 have hPh : Hid (∀ W,Below w.heap.size w W → PlM P f M W) := fun W hW => hP.below hW
 have c1 : (w.alloc (.cells #[.int .i64 0,.int .i64 0,.int .i64 0] 141)).cell? ⟨P.B,1,none⟩ = some (.slice (some ⟨P.gw,P.ow,none⟩) P.wds.length P.cw) := (hP.below hb0).p.c1
 have hbd : Hid (∀ n,n < P.wds.length → SpB (P.sts.length - 1,n)) := fun n hn => ⟨by show P.sts.length - 1 ≤ _; omega,by show n ≤ _; omega⟩
 have h0h : Hid (∀ n,n < P.wds.length → f (P.sts.length - 1,n) = none) := h0
 clear hP hb0 h0
 generalize P.sts.length - 1 = m at *
 go_enter Tryz.func67,Tryz.ntmps67
 go_wp2_with fail
 generalize w.alloc (.cells #[.int .i64 0,.int .i64 0,.int .i64 0] 141) = wz at *
 go_wp2_with fail
 clear c1
 go_loopw [4,13] (fun v4 v13 wr => ∃ n : Nat,n ≤ P.wds.length ∧ v4 = .slice none 0 0 ∧ v13 = .int .i64 n ∧ Hid (Below w.heap.size w wr ∧ wr.heap[w.heap.size]? = some (.cells (wyL wy0).toArray 141 (0,0)))) (fun _ v13 _ => P.wds.length - (intOf v13).toNat)
 case atStart => exact ⟨0,by omega,rfl,rfl,hI0⟩
 case round =>
  obtain ⟨n,hn,rfl,rfl,hI⟩ := hrel
  clear hI0
  by_cases hlt : n < P.wds.length
  ·have hlt' : (n : Int) < P.wds.length := by omega
   have hS0 : Hid (PlM P f M (World.drew wr)) := (hPh.out wr hI.out.1).drew
   have hsb := hbd.out n hlt
   go_wp2_with fail
   refine en_r5 _ (fun _ _ _ _ _ h => h) _ _ P f M m n wr hS0.out hsb hm9.out hl1 hl2 ?_
   intro w2 hb2 hT2
   have hI2 : Hid (Below w.heap.size w w2 ∧ w2.heap[w.heap.size]? = some (.cells (wyL wy0).toArray 141 (0,0))) := ⟨hI.out.1.trans (hb2.mono hI.out.1.size),(hb2.block _ (Array.getElem?_eq_some_iff.1 hI.out.2).1).trans hI.out.2⟩
   clear hb2 hS0 hI
   generalize wr.heap.size = T at *
   rw [h0h.out n hlt] at hT2 ⊢
   unfold fr16
   go_wp2_with fail
   exact ⟨⟨n + 1,by omega,rfl,by simp,hI2⟩,by simp [intOf]; omega⟩
  ·have hge : ¬ (n : Int) < P.wds.length := by omega
   have r0 := hI.out.2
   have hlow : Hid (Below w.heap.size w wr) := hI.out.1
   clear hI hbd hPh h0h
   go_wp2_with (refine wpList_store_row rfl 141 _ _ rfl w.heap.size (wyL wy0).toArray rfl rfl 141 _ r0 (info58 _) rfl (wyL_all _) ?_)
   exact bodyPost_ret (results_cell_row2 rfl _ _ w.heap.size 141 _ (0,0) _ rfl (setRow_heap _ _ _ _ _ _ r0) Tryz.underlying141 rfl (info58 _)) rfl ⟨rfl,hlow.out.trans ((Turns.setRow (X := fun k => k = w.heap.size) _ rfl _).below hlow.out.size (fun k hk => by omega))⟩
theorem limit_none (P : Pl) (f : Nat × Nat → Option Wy) (M : Nat) (hs : 0 < P.sts.length ∧ P.sts.length ≤ 8193) (hw : 0 < P.wds.length ∧ P.wds.length ≤ 257) (h0 : ∀ n,n < P.wds.length → f (P.sts.length - 1,n) = none) (w : World) (hP : PlM P f M w) : Calls Tryz.prog 137 #[.pointer (some ⟨P.B,0,none⟩)] w fun e w' => e = .returned (.int .i64 9223372036854775807) ∧ Below w.heap.size w w' := by
 have hEh2 : Hid (Calls Tryz.prog 67 #[.pointer (some ⟨P.B,0,none⟩)] w fun e w' => e = .returned (.tuple #[.agg #[.int .i64 0,.int .i64 0,.int .i64 0],.bool false]) ∧ Below w.heap.size w w') := pend_none P f M hs hw h0 w hP
 clear hP h0
 go_enter Tryz.func137,Tryz.ntmps137
 go_wp2_with (go_at_call 67; refine hEh2.out.mono ?_; rintro e w2 ⟨rfl,hb2⟩)
 go_ret
 exact ⟨rfl,hb2.alloc hb2.size _⟩
end Go.Proofs.YtfiekhephkpdjaaGreatDoor

namespace Go.Proofs.YtfiekhephkpdjaaGreatDoor
open Go.RowKit Go.Shelf

structure LvI (z : World) (P : Pl) (M n : Nat) (f : Nat × Nat → Option Wy) (L : List Re) (v : Value) (W : World) : Prop where
 tr : Turns (fun k => k = P.mb) z W
 s : LwS P f M z.heap.size (z.heap.size + 1) n W
 row : W.ownsRow (z.heap.size + 2) 236 4 v L.length (L.flatMap reL)
theorem turns_own {X Y : Nat → Prop} {z W W' : World} (h1 : Turns X z W) (h2 : Turns Y W W') (h : ∀ k,Y k → z.heap.size ≤ k) : Turns X z W' := by
 have h3 := (h1.mono (Y := fun k => X k ∨ Y k) (fun _ h => .inl h)).trans (h2.mono (fun _ h => .inr h))
 exact ⟨h3.os,h3.tape,h3.output,h3.size,fun k hk hx => h3.block k hk (fun ho => ho.elim hx (fun hy => by have := h k hy; omega))⟩
theorem turns_base {base : Nat} {W W' : World} (h : Below base W W') : Turns (fun k => base ≤ k) W W' := ⟨h.os,h.tape,h.output,h.size,fun k _ hx => h.block k (by omega)⟩
structure LvJ (z : World) (P : Pl) (M n : Nat) (f : Nat × Nat → Option Wy) (L : List Re) (v : Value) (x2 b : Nat) (W : World) : Prop where
 tr : Turns (fun k => k = P.mb) z W
 s : LvS P f M z.heap.size x2 (z.heap.size + 1) b n W
 row : W.ownsRow (z.heap.size + 2) 236 4 v L.length (L.flatMap reL)
section
variable {z : World} {P : Pl} {M n : Nat} {f : Nat × Nat → Option Wy} {L : List Re} {v : Value} {x2 b : Nat} {W W' : World}
theorem LvJ.next (h : LvJ z P M n f L v x2 b W) (hb : Below W.heap.size W W') : LvJ z P M n f L v x2 b W' := ⟨h.tr.trans ((Turns.of_below hb).mono (fun _ h => h.elim)),h.s.below hb,ownsRow_below h.row hb⟩
theorem LvJ.i (h : LvJ z P M n f L v x2 b W) : LvI z P M n f L v W := ⟨h.tr,h.s.w,h.row⟩
theorem LvJ.app (h : LvJ z P M n f L v x2 b W) {L' : List Re} {v' : Value} (hr : W'.ownsRow (z.heap.size + 2) 236 4 v' L'.length (L'.flatMap reL)) (hb : Below (z.heap.size + 2) W W') (h4 : P.mb < z.heap.size ∧ P.B < z.heap.size ∧ P.gs < z.heap.size ∧ P.gw < z.heap.size) : LvI z P M n f L' v' W' := by
 have ht := turns_base hb
 exact ⟨turns_own h.tr ht (fun k hk => by omega),h.s.w.keep ht (by omega) (by omega) ⟨h.s.w.p.p.keep ht (by omega) (by omega) (by omega),h.s.w.p.m.turns ht (by omega)⟩,hr⟩
theorem LvJ.del (h : LvJ z P M n f L v x2 b W) {L' : List Re} {v' : Value} (hr : W'.ownsRow (z.heap.size + 2) 236 4 v' L'.length (L'.flatMap reL)) (ht : Turns (fun k => v.ownBlock = some k) W W') (hx : ∀ g,v.ownBlock = some g → x2 ≠ g) (h4 : P.mb < z.heap.size ∧ P.B < z.heap.size ∧ P.gs < z.heap.size ∧ P.gw < z.heap.size) : LvJ z P M n f L' v' x2 b W' := by
 have hl : ∀ k,v.ownBlock = some k → z.heap.size + 2 ≤ k := fun k hk => (h.row.lt k hk).1
 have hn : ∀ k,k < z.heap.size + 2 → ¬ v.ownBlock = some k := fun k h1 h2 => by have := hl k h2; omega
 exact ⟨turns_own h.tr ht (fun k hk => by have := hl k hk; omega),h.s.keep ht (hn _ (by omega)) (fun e => hx _ e rfl) (hn _ (by omega)) ⟨h.s.w.p.p.keep ht (hn _ (by omega)) (hn _ (by omega)) (hn _ (by omega)),h.s.w.p.m.turns ht (hn _ (by omega))⟩,hr⟩
end
theorem el140 : ElOk 233 236 4 32 := ElOk.of Tryz.underlying233 (by kernel_rfl)
theorem build140 (x : Re) (W : World) : (Instr.buildSlice 233 1 #[(0,.agg (reL x).toArray)]).run Tryz.prog W = .ok (.slice (some ⟨W.heap.size,0,none⟩) 1 1) (W.alloc (.cells (reL x).toArray 236)) := by
 obtain ⟨s,a,n,g⟩ := x
 kernel_rfl
theorem wpList_build140 {ops : Array Oper} {rest : List Oper} {oi : Oper} {a : Act} {w : World} {Q : Exit → Act → World → Prop} (hgd : oi.guard = none) (y : Operand) (ho : oi.op = .buildSlice 233 1 #[(0,y)]) (p : Re) (hy : a.eval y = .agg (reL p).toArray)
  (h : wpList Tryz.prog ops Q rest (a.put oi.dst (.slice (some ⟨w.heap.size,0,none⟩) 1 1)) (w.alloc (.cells (reL p).toArray 236))) : wpList Tryz.prog ops Q (oi :: rest) a w :=
 wpList_plain hgd fun K hK => by
  have hr := build140 p w
  unfold Oper.wp execOp
  simp only [ho,List.map_toArray,List.map_cons,List.map_nil,hy,Sem.run_bind,Sem.run_pure,Result.andThen_ok,hr]
  exact hK _ _ h
end Go.Proofs.YtfiekhephkpdjaaGreatDoor

namespace Go.Proofs.YtfiekhephkpdjaaGreatDoor
open Go.RowKit Go.Shelf
set_option maxRecDepth 100000
set_option maxHeartbeats 4000000

def lmL (f : Nat × Nat → Option Wy) (n : Nat) : Nat → List Re
 | 0 => []
 | b + 1 => match f (b,n) with | none => [] | some y => if y.d < 9223372036854775807 then [⟨b,y⟩] else []
theorem lm_cases (f : Nat × Nat → Option Wy) (n b : Nat) : lmL f n (b + 1) = [] ∨ ∃ y,lmL f n (b + 1) = [⟨b,y⟩] := by
 cases e : f (b,n) with
 | none => left; simp [lmL,e]
 | some y =>
  by_cases h : y.d < 9223372036854775807
  ·right; exact ⟨y,by simp [lmL,e,h]⟩
  ·left; simp [lmL,e,h]
theorem lm_ok (f : Nat × Nat → Option Wy) (n b : Nat) : (∀ x ∈ lmL f n b,x.s < b) ∧ (lmL f n b).length ≤ 1 := by
 cases b with
 | zero => exact ⟨fun _ h => absurd h List.not_mem_nil,Nat.zero_le _⟩
 | succ b =>
  rcases lm_cases f n b with e | ⟨y,e⟩
  ·rw [e]; exact ⟨fun _ h => absurd h List.not_mem_nil,Nat.zero_le _⟩
  ·rw [e]
   refine ⟨fun x hx => ?_,Nat.le_refl _⟩
   rw [List.mem_singleton] at hx
   subst hx
   exact Nat.lt_succ_self b
theorem enL_none {f : Nat × Nat → Option Wy} {m : Nat} : ∀ N,(∀ n,n < N → f (m,n) = none) → enL f m N = []
 | 0,_ => rfl
 | N + 1,h => by
  show (match f (m,N) with | none => enL f m N | some x => enL f m N ++ [x]) = []
  rw [h N (Nat.lt_succ_self N)]
  exact enL_none N fun n hn => h n (by omega)
theorem lim_none {P : Pl} {f : Nat × Nat → Option Wy} (h0 : ∀ n,n < P.wds.length → f (P.sts.length - 1,n) = none) : limI P f = 9223372036854775807 := by
 unfold limI endO
 rw [enL_none _ h0]
 rfl
theorem level_miss (l : List It) (P : Pl) (hO : PlOk l P) (f : Nat × Nat → Option Wy) (M n : Nat) (hn : n < P.wds.length) (h0 : ∀ n,n < P.wds.length → f (P.sts.length - 1,n) = none) (hnil : ∀ b,b < P.sts.length → dlL P b n (lmL f n b) = []) (w : World) (hP : PlM P f M w) :
  Calls Tryz.prog 102 #[.pointer (some ⟨P.B,0,none⟩),.int .i64 n] w fun e w' => e = .returned (.bool false) ∧ PlM P f M w' ∧ Turns (fun k => k = P.mb) w w' := by
 obtain ⟨m,hmn⟩ : ∃ m : Nat,m = n + 1 := ⟨_,rfl⟩
 have hw257 := hO.nw
 have hlow4 : P.mb < w.heap.size ∧ P.B < w.heap.size ∧ P.gs < w.heap.size ∧ P.gw < w.heap.size := ⟨hP.m.lt,hP.p.lB,hP.p.ls,hP.p.lw⟩
 have hs8 := hO.ns
 have hS0 : Hid (LwS P f M w.heap.size (w.heap.size + 1) n ((w.alloc (.cells #[.pointer (some ⟨P.B,0,none⟩)] 190)).alloc (.cells #[.int .i64 n] 3))) :=
  ⟨hP.below (below2 w _ _),by rw [Lib.cell_of_heap ((Below.heap_alloc _ _ _ (by simp)).trans (World.alloc_heap_new w _))]; rfl,by rw [Lib.cell_of_heap (alloc2_heap w _ _)]; rfl,by simp; omega,by simp⟩
 have hT0 : Hid (Turns (fun k => k = P.mb) w ((w.alloc (.cells #[.pointer (some ⟨P.B,0,none⟩)] 190)).alloc (.cells #[.int .i64 n] 3))) := (Turns.of_below (below2 w _ _)).mono (fun _ h => h.elim)
 have hnu : Hid (∀ W,PlS P W → Calls Tryz.prog 106 #[.pointer (some ⟨P.B,0,none⟩),.int .i64 (m : Nat)] W fun e w' => e = .returned (.int .i64 (nuN P m : Nat)) ∧ Below W.heap.size W w') := fun W hW => (number_any P m (by omega) hw257 W hW).mono fun e w' ⟨h1,h2⟩ => ⟨h1,h2 ▸ Below.refl _ _⟩
 have hli : Hid (∀ W,PlM P f M W → Calls Tryz.prog 137 #[.pointer (some ⟨P.B,0,none⟩)] W fun e w' => e = .returned (.int .i64 (limI P f)) ∧ Below W.heap.size W w') := fun W hW => by rw [lim_none h0]; exact limit_none P f M hs8 hw257 h0 W hW
 clear hP
 go_enter Tryz.func102,Tryz.ntmps102
 go_wp2_with fail
 generalize (w.alloc (.cells #[.pointer (some ⟨P.B,0,none⟩)] 190)).alloc (.cells #[.int .i64 n] 3) = wz at *
 refine lv_r1 _ (fun _ _ _ _ _ h => h) _ _ P f M w.heap.size (w.heap.size + 1) n m wz hS0.out.drew (by omega) (by omega) hnu hli ?_
 intro w1 hb1
 rw [lim_none h0]
 have hI1 : Hid (LvI w P M n f [] (.slice none 0 0) w1) := ⟨hT0.out.trans ((Turns.of_below hb1).mono (fun _ h => h.elim)),hS0.out.below hb1,World.ownsRow_nil _ _ _ _⟩
 have c1 := hI1.out.s.c1
 have d0 := hI1.out.s.p.p.c0
 have hlt4 : Hid (P.mb < w.heap.size ∧ P.B < w.heap.size ∧ P.gs < w.heap.size ∧ P.gw < w.heap.size) := hlow4
 have hl9 : (P.sts.length : Int) ≤ 9000 := by omega
 have hto : Hid (nuN P m ≤ 100000) := by show _ ≤ _; unfold nuN; omega
 have hwd : Hid (P.wds.getD n 0 = P.wds[n]) := by show _ = _; rw [List.getD_eq_getElem?_getD,List.getElem?_eq_getElem hn]; rfl
 have hnilh : Hid (∀ b,b < P.sts.length → dlL P b n (lmL f n b) = []) := hnil
 have hOh : Hid (PlOk l P) := hO
 clear hS0 hT0 hb1 hnu hli hlow4 hO hmn hnil h0
 generalize nuN P m = to at *
 unfold fr34
 go_wp2_with fail
 clear c1 d0
 go_loopw [7,8,25] (fun v7 v8 v25 wr => ∃ b : Nat,b ≤ P.sts.length ∧ v25 = .int .i64 b ∧ v7 = .bool false ∧ Hid (LvI w P M n f (lmL f n b) v8 wr)) (fun _ _ v25 _ => P.sts.length - (intOf v25).toNat)
 case atStart => exact ⟨0,by omega,rfl,rfl,hI1⟩
 case round =>
  obtain ⟨b,hb,rfl,rfl,hI⟩ := hrel
  clear hI1
  by_cases hlt : b < P.sts.length
  ·have hlt' : (b : Int) < P.sts.length := by omega
   have hI2 := hI.out
   have hL1 := lm_ok f n b
   have hnb := hnilh.out b hlt
   clear hnilh hI
   obtain ⟨L,hLe⟩ : ∃ L,L = lmL f n b := ⟨_,rfl⟩
   rw [← hLe] at hI2 hL1 hnb
   have hJ : Hid (LvJ w P M n f L u8 wr.heap.size b (wr.alloc (.cells #[.int .i64 b] 3))) := by
    have hb1 := (Below.refl wr.heap.size wr).alloc (Nat.le_refl _) (.cells #[.int .i64 b] 3)
    exact ⟨hI2.tr.trans ((Turns.of_below hb1).mono (fun _ h => h.elim)),⟨hI2.s.below hb1,by rw [Lib.cell_of_heap (World.alloc_heap_new wr _)]; rfl,by simp⟩,ownsRow_below hI2.row hb1⟩
   have hxz : Hid (w.heap.size ≤ wr.heap.size ∧ w.heap.size + 2 ≤ wr.heap.size) := ⟨hI2.tr.size,by have := hI2.s.l3; omega⟩
   have hxo : Hid (∀ g,u8.ownBlock = some g → wr.heap.size ≠ g) := fun g hg => by have := (hI2.row.lt g hg).2; omega
   have hdl : Hid (Calls Tryz.prog 138 #[u8,.func (.func 139) #[] #[.pointer (some ⟨w.heap.size,0,none⟩),.pointer (some ⟨wr.heap.size,0,none⟩),.pointer (some ⟨w.heap.size + 1,0,none⟩)]] (wr.alloc (.cells #[.int .i64 b] 3)) fun e w' => (∃ v',e = .returned v' ∧ w'.ownsRow (w.heap.size + 2) 236 4 v' 0 [] ∧ v'.ownBlock = u8.ownBlock) ∧ Turns (fun k => u8.ownBlock = some k) (wr.alloc (.cells #[.int .i64 b] 3)) w') :=
    by
    have h := (delete_any l P hOh.out w.heap.size wr.heap.size (w.heap.size + 1) b n (w.heap.size + 2) u8 L (by have := hL1.2; omega) (fun x hx => by have := hL1.1 x hx; omega) hlt hn _ hJ.out.s.cl (by have := hxz.out.2; simp; omega) (fun g hg => by
     have h1 := (hI2.row.lt g hg).1
     have h2 := hxo.out g hg
     have h3 := hlt4.out
     exact ⟨by omega,by omega,by omega,by omega,h2,by omega⟩) hJ.out.row)
    rw [hnb] at h
    exact h
   have hre : Hid (∀ W v,PlS P W → W.ownsRow (w.heap.size + 2) 236 4 v 0 [] → Calls Tryz.prog 141 #[.pointer (some ⟨P.B,0,none⟩),v,.int .i64 b,.int .i64 P.wds[n]] W fun e w' => e = .returned (.tuple #[.agg (wyL wy0).toArray,.bool false]) ∧ Below W.heap.size W w') := fun W v _ h2 => by
    obtain ⟨a,cp,rfl,-⟩ := (rec_of_row reL_len (rs := []) rfl h2).ex
    exact reach_nil P a cp b _ W
   have hnx : Hid (lmL f n (b + 1) = match f (b,n) with | none => [] | some y => if y.d < 9223372036854775807 then [⟨b,y⟩] else []) := rfl
   clear hI2 hL1 hnb hOh hLe
   go_wp2_with (go_at_call 138; refine hdl.out.mono ?_; rintro e w3 ⟨⟨v',rfl,hr3,hob3⟩,ht3⟩; have hJ3 : Hid (LvJ w P M n f [] v' wr.heap.size b w3) := hJ.out.del hr3 ht3 hxo.out hlt4.out; clear hr3 hob3 ht3 hJ hdl hxo)
   refine lv_r7 _ (fun _ _ _ _ _ h => h) _ _ P f M w.heap.size wr.heap.size (w.heap.size + 1) b n v' [] w3 w3 (below_drew w3) hJ3.out.s.drew hn (by omega) hJ3.out.s (fun W hW => hre.out W v' (hJ3.out.next hW).s.w.p.p (hJ3.out.next hW).row) (fun R w4 hb4 hS4 hR4 => ?_)
   rw [show reO P b P.wds[n] [] = none from rfl]
   simp only [Option.getD_none,Option.isSome_none]
   have hb5 : Below w3.heap.size w3 (w4.setRow R (wyL wy0).toArray) := hb4.trans ((Turns.setRow (X := fun k => k = R) _ rfl _).below hb4.size (fun k hk => by have := hR4.1; omega))
   have hJ5 : Hid (LvJ w P M n f [] v' wr.heap.size b (w4.setRow R (wyL wy0).toArray)) := hJ3.out.next hb5
   have hR5 : (w4.setRow R (wyL wy0).toArray).heap[R]? = some (.cells (wyL wy0).toArray 141 (0,0)) := setRow_heap _ _ _ _ _ _ hR4.2
   clear hre hb4 hS4 hR4 hb5 hJ3
   generalize w4.setRow R (wyL wy0).toArray = w5 at *
   have hsp : Hid (SpB (b,to) ∧ SpB (b,n)) := ⟨⟨by show b ≤ _; omega,hto.out⟩,⟨by show b ≤ _; omega,by show n ≤ _; omega⟩⟩
   clear hR5
   unfold fr34
   go_wp2_with fail
   refine lv_r11 _ (fun _ _ _ _ _ h => h) _ _ P f M w.heap.size wr.heap.size (w.heap.size + 1) b n w5 hJ5.out.s.drew hsp.out.2 ?_
   intro w7 hb7 hT7 hS7
   have hJ7 : Hid (LvJ w P M n f [] v' wr.heap.size b w7) := hJ5.out.next hb7
   clear hb7 hS7 hJ5
   generalize (w5).heap.size = T at *
   cases hg : f (b,n) with
   | none =>
    rw [hg] at hT7; replace hnx := hnx.out; rw [hg] at hnx; replace hnx : Hid (lmL f n (b + 1) = _) := hnx
    clear hg hT7
    unfold fr34
    go_wp2_with fail
    exact ⟨⟨b + 1,by omega,by simp,by simp,by rw [hnx.out]; exact hJ7.out.i⟩,by simp [intOf]; omega⟩
   | some y2 =>
    rw [hg] at hT7; replace hnx := hnx.out; rw [hg] at hnx; replace hnx : Hid (lmL f n (b + 1) = _) := hnx
    have hT8 : w7.heap[T]? = some (.cells #[.int .i64 y2.d,.int .i64 y2.n,.int .i64 y2.f] 141 (0,0)) := hT7
    have e0 : w7.cell? ⟨T,0,none⟩ = some (.int .i64 y2.d) := by rw [Lib.cell_of_heap hT8]; rfl
    have k2 := hJ7.out.s.c2
    clear hg hT7
    by_cases hlm : y2.d < 9223372036854775807
    ·have hLL : Hid (lmL f n (b + 1) = [⟨b,y2⟩]) := hnx.out.trans (if_pos hlm)
     have hbz : Hid (w.heap.size + 2 ≤ w7.heap.size) := by have := hJ7.out.s.w.l3; show _ ≤ _; omega
     unfold fr34
     go_wp2_with (first | (refine wpList_load_row rfl 141 _ rfl T rfl 141 _ (0,0) _ hT8 Tryz.underlying141 rfl (info58 y2) ?_) | (refine wpList_build140 rfl _ rfl ⟨b,y2⟩ rfl ?_) | (refine wpList_app1 (k := 4) (f := reL) (w0 := w7) (bytes := 32) rfl el140 reL_len reL_one (by omega) (by omega) _ _ rfl (w.heap.size + 2) v' [] ⟨b,y2⟩ rfl hJ7.out.row hbz.out (by decide) rfl rfl ?_; intro v9 w9 hr9 hb9; have hI9 : Hid (LvI w P M n f ([] ++ [⟨b,y2⟩]) v9 w9) := hJ7.out.app hr9 hb9 hlt4.out; clear hr9 hb9 hJ7))
     exact ⟨⟨b + 1,by omega,by simp,by simp,by rw [hLL.out]; exact hI9⟩,by simp [intOf]; omega⟩
    ·have hLL : Hid (lmL f n (b + 1) = []) := hnx.out.trans (if_neg hlm)
     unfold fr34
     go_wp2_with fail
     exact ⟨⟨b + 1,by omega,by simp,by simp,by rw [hLL.out]; exact hJ7.out.i⟩,by simp [intOf]; omega⟩
  ·have hge : ¬ (b : Int) < P.sts.length := by omega
   obtain rfl : b = P.sts.length := by omega
   have hfin : Hid (PlM P f M wr ∧ Turns (fun k => k = P.mb) w wr) := ⟨hI.out.s.p,hI.out.tr⟩
   clear hI hOh hnilh
   go_wp2_with fail
   go_ret
   exact ⟨rfl,hfin.out⟩
end Go.Proofs.YtfiekhephkpdjaaGreatDoor
