/-
  What is proved here: what level of least finds, as a function; that it keeps bounds.
  What is proved here: what level of least does.
  What is proved here: what search of least finds.
-/
import Derived.Test.YtfndocmgonlhpaaGreatDoorG29
namespace Go.Proofs.YtfndocmgonlhpaaGreatDoor
open Go.RowKit Go.Shelf

def lvF (f : Nat × Nat → Option Wy) (c : Nat × Nat) : Option Wy → Nat × Nat → Option Wy
 | none => f
 | some y => keF f c y
def lvL (b : Nat) (lim : Int) (L : List Re) : Option Wy → List Re
 | none => L
 | some y => if y.d < lim then L ++ [⟨b,y⟩] else L
structure Lv where
 f : Nat × Nat → Option Wy
 L : List Re
 k : Bool
def lvS (P : Pl) (n to : Nat) (lim : Int) (s : Lv) (b : Nat) : Lv :=
 ⟨lvF s.f (b,to) (reO P b (P.wds.getD n 0) (dlL P b n s.L)),lvL b lim (dlL P b n s.L) (lvF s.f (b,to) (reO P b (P.wds.getD n 0) (dlL P b n s.L)) (b,n)),s.k || (reO P b (P.wds.getD n 0) (dlL P b n s.L)).isSome⟩
def lvN (P : Pl) (n to : Nat) (lim : Int) (s : Lv) : Nat → Lv
 | 0 => s
 | k + 1 => lvS P n to lim (lvN P n to lim s k) k
def lvE (P : Pl) (f : Nat × Nat → Option Wy) (n : Nat) : Lv := lvN P n (nuN P (n + 1)) (limI P f) ⟨f,[],false⟩ P.sts.length
def WyOk (b : Nat) (x : Wy) : Prop := (0 ≤ x.d ∧ x.d ≤ 171751025 * x.n) ∧ x.n ≤ b ∧ x.f ≤ b
def OpOk (b : Nat) (L : List Re) : Prop := (∀ x ∈ L,x.s < b ∧ WyOk x.s x.y) ∧ L.length ≤ b
theorem dl_ok {P : Pl} {b n : Nat} {L : List Re} (h : OpOk b L) : OpOk b (dlL P b n L) := ⟨fun x hx => h.1 x (List.mem_filter.1 hx).1,Nat.le_trans (List.length_filter_le ..) h.2⟩
theorem reS_ok {l : List It} {P : Pl} (hO : PlOk l P) {b : Nat} (hb : b < P.sts.length) {wd : Int} {m : Option Wy} {x : Re} (hx : x.s < b ∧ WyOk x.s x.y) (hm : ∀ y,m = some y → WyOk b y) : ∀ y,reS P b wd m x = some y → WyOk b y := by
 intro y hy
 have ha : x.s < P.sts.length := by omega
 have h1 := hO.f _ (List.getElem_mem ha)
 have h2 := hO.f _ (List.getElem_mem hb)
 have hr := dmV_rng (d := wd) h2.2 (ln_ok hO.ck h1.1 h2.1)
 unfold reS at hy
 rw [st_d ha,st_d hb] at hy
 split at hy
 ·rename_i hd
  obtain ⟨r1,r2⟩ := hr hd
  obtain ⟨⟨k1,k2⟩,k3,k4⟩ := hx.2
  have hnew : WyOk b ⟨x.y.d + dmV P.sts[x.s] P.sts[b] wd,x.y.n + 1,x.s⟩ := ⟨⟨by show 0 ≤ x.y.d + _; omega,by show _ + _ ≤ 171751025 * ((x.y.n + 1 : Nat) : Int); omega⟩,by show x.y.n + 1 ≤ b; omega,by show x.s ≤ b; omega⟩
  split at hy
  ·cases hy; exact hnew
  ·split at hy
   ·cases hy; exact hnew
   ·rename_i y0 _ _
    cases hy; exact hm _ rfl
 ·exact hm y hy
theorem reG_ok {l : List It} {P : Pl} (hO : PlOk l P) {b : Nat} (hb : b < P.sts.length) {wd : Int} : ∀ (L : List Re) (m : Option Wy),(∀ x ∈ L,x.s < b ∧ WyOk x.s x.y) → (∀ y,m = some y → WyOk b y) → ∀ y,reG P b wd L m = some y → WyOk b y
 | [],_,_,hm => hm
 | x :: r,_m,hL,hm => reG_ok hO hb r _ (fun z hz => hL z (List.mem_cons_of_mem _ hz)) (reS_ok hO hb (hL x (List.mem_cons_self ..)) hm)
theorem keF_ok {f : Nat × Nat → Option Wy} {c : Nat × Nat} {x : Wy} (hf : MpOk f) (hc : c.1 ≤ 8192) (hx : WyOk c.1 x) : MpOk (keF f c x) := by
 have hu : MpOk (updW f c x) := fun a y hy => by
  unfold updW at hy
  split at hy
  ·rename_i e
   cases hy; rw [e]; exact ⟨hx.1,hx.2.1,hx.2.2,hc⟩
  ·exact hf a y hy
 unfold keF
 split
 ·exact hu
 ·split
  ·exact hu
  ·exact hf
theorem lvS_ok {l : List It} {P : Pl} (hO : PlOk l P) {n to : Nat} {lim : Int} {s : Lv} {b : Nat} (hb : b < P.sts.length) (hf : MpOk s.f) (hL : OpOk b s.L) : MpOk (lvS P n to lim s b).f ∧ OpOk (b + 1) (lvS P n to lim s b).L := by
 have h8 := hO.ns.2
 have hd := dl_ok (P := P) (n := n) hL
 have hr : ∀ y,reO P b (P.wds.getD n 0) (dlL P b n s.L) = some y → WyOk b y := fun y hy => reG_ok hO hb _ none hd.1 (fun _ h => by cases h) y hy
 unfold lvS
 simp only
 generalize reO P b (P.wds.getD n 0) (dlL P b n s.L) = r at *
 generalize dlL P b n s.L = D at *
 have hF : MpOk (lvF s.f (b,to) r) := by
  cases r with
  | none => exact hf
  | some y => exact keF_ok hf (by show b ≤ _; omega) (hr y rfl)
 refine ⟨hF,?_⟩
 have h0 : OpOk (b + 1) D := ⟨fun x hx => ⟨by have := (hd.1 x hx).1; omega,(hd.1 x hx).2⟩,by have := hd.2; omega⟩
 cases e : lvF s.f (b,to) r (b,n) with
 | none => exact h0
 | some y =>
  have hy := hF _ _ e
  show OpOk (b + 1) (if y.d < lim then _ else _)
  split
  ·refine ⟨fun x hx => ?_,by rw [List.length_append,List.length_singleton]; have := hd.2; omega⟩
   rcases List.mem_append.1 hx with hx | hx
   ·exact h0.1 x hx
   ·rw [List.mem_singleton] at hx
    subst hx
    exact ⟨Nat.lt_succ_self b,hy.1,hy.2.1,hy.2.2.1⟩
  ·exact h0
theorem lvN_ok {l : List It} {P : Pl} (hO : PlOk l P) {n to : Nat} {lim : Int} {f : Nat × Nat → Option Wy} (hf : MpOk f) : ∀ b,b ≤ P.sts.length → MpOk (lvN P n to lim ⟨f,[],false⟩ b).f ∧ OpOk b (lvN P n to lim ⟨f,[],false⟩ b).L
 | 0,_ => ⟨hf,⟨fun _ h => absurd h List.not_mem_nil,Nat.le_refl _⟩⟩
 | b + 1,h => by
  have h1 := lvN_ok hO hf (n := n) (to := to) (lim := lim) b (by omega)
  exact lvS_ok hO (by omega) h1.1 h1.2
theorem lvE_ok {l : List It} {P : Pl} (hO : PlOk l P) {f : Nat × Nat → Option Wy} (hf : MpOk f) (n : Nat) : MpOk (lvE P f n).f := (lvN_ok hO hf _ (Nat.le_refl _)).1
theorem op_re {P : Pl} {b : Nat} {L : List Re} (h : OpOk b L) (hb : b < P.sts.length) (h8 : P.sts.length ≤ 8193) : ReOk P L := fun x hx => by
 obtain ⟨h1,⟨h2,h3⟩,h4,h5⟩ := h.1 x hx
 exact ⟨by omega,⟨h2,by omega⟩,by omega⟩
end Go.Proofs.YtfndocmgonlhpaaGreatDoor

namespace Go.Proofs.YtfndocmgonlhpaaGreatDoor
open Go.RowKit Go.Shelf
set_option maxRecDepth 100000
set_option maxHeartbeats 4000000

structure LvI (z : World) (P : Pl) (M n : Nat) (f : Nat × Nat → Option Wy) (L : List Re) (v : Value) (W : World) : Prop where
 tr : Turns (fun k => k = P.mb) z W
 s : LwS P f M z.heap.size (z.heap.size + 1) n W
 row : W.ownsRow (z.heap.size + 2) 143 4 v L.length (L.flatMap reL)
theorem turns_own {X Y : Nat → Prop} {z W W' : World} (h1 : Turns X z W) (h2 : Turns Y W W') (h : ∀ k,Y k → z.heap.size ≤ k) : Turns X z W' := by
 have h3 := (h1.mono (Y := fun k => X k ∨ Y k) (fun _ h => .inl h)).trans (h2.mono (fun _ h => .inr h))
 exact ⟨h3.os,h3.tape,h3.output,h3.size,fun k hk hx => h3.block k hk (fun ho => ho.elim hx (fun hy => by have := h k hy; omega))⟩
theorem turns_base {base : Nat} {W W' : World} (h : Below base W W') : Turns (fun k => base ≤ k) W W' := ⟨h.os,h.tape,h.output,h.size,fun k _ hx => h.block k (by omega)⟩
structure LvJ (z : World) (P : Pl) (M n : Nat) (f : Nat × Nat → Option Wy) (L : List Re) (v : Value) (x2 b : Nat) (W : World) : Prop where
 tr : Turns (fun k => k = P.mb) z W
 s : LvS P f M z.heap.size x2 (z.heap.size + 1) b n W
 row : W.ownsRow (z.heap.size + 2) 143 4 v L.length (L.flatMap reL)
section
variable {z : World} {P : Pl} {M n : Nat} {f : Nat × Nat → Option Wy} {L : List Re} {v : Value} {x2 b : Nat} {W W' : World}
theorem LvJ.next (h : LvJ z P M n f L v x2 b W) (hb : Below W.heap.size W W') : LvJ z P M n f L v x2 b W' := ⟨h.tr.trans ((Turns.of_below hb).mono (fun _ h => h.elim)),h.s.below hb,ownsRow_below h.row hb⟩
theorem LvJ.i (h : LvJ z P M n f L v x2 b W) : LvI z P M n f L v W := ⟨h.tr,h.s.w,h.row⟩
theorem LvJ.put (h : LvJ z P M n f L v x2 b W) {g : Nat × Nat → Option Wy} {M' : Nat} (ht : Turns (fun k => k = P.mb) W W') (hp : PlM P g M' W') (hm : P.mb < z.heap.size) (hx : z.heap.size ≤ x2) : LvJ z P M' n g L v x2 b W' :=
 ⟨h.tr.trans ht,h.s.keep ht (by omega) (by omega) (by omega) hp,ownsRow_turns h.row ht (fun g hg e => by have := (h.row.lt g hg).1; omega)⟩
theorem LvJ.app (h : LvJ z P M n f L v x2 b W) {L' : List Re} {v' : Value} (hr : W'.ownsRow (z.heap.size + 2) 143 4 v' L'.length (L'.flatMap reL)) (hb : Below (z.heap.size + 2) W W') (h4 : P.mb < z.heap.size ∧ P.B < z.heap.size ∧ P.gs < z.heap.size ∧ P.gw < z.heap.size) : LvI z P M n f L' v' W' := by
 have ht := turns_base hb
 exact ⟨turns_own h.tr ht (fun k hk => by omega),h.s.w.keep ht (by omega) (by omega) ⟨h.s.w.p.p.keep ht (by omega) (by omega) (by omega),h.s.w.p.m.turns ht (by omega)⟩,hr⟩
theorem LvJ.del (h : LvJ z P M n f L v x2 b W) {L' : List Re} {v' : Value} (hr : W'.ownsRow (z.heap.size + 2) 143 4 v' L'.length (L'.flatMap reL)) (ht : Turns (fun k => v.ownBlock = some k) W W') (hx : ∀ g,v.ownBlock = some g → x2 ≠ g) (h4 : P.mb < z.heap.size ∧ P.B < z.heap.size ∧ P.gs < z.heap.size ∧ P.gw < z.heap.size) : LvJ z P M n f L' v' x2 b W' := by
 have hl : ∀ k,v.ownBlock = some k → z.heap.size + 2 ≤ k := fun k hk => (h.row.lt k hk).1
 have hn : ∀ k,k < z.heap.size + 2 → ¬ v.ownBlock = some k := fun k h1 h2 => by have := hl k h2; omega
 exact ⟨turns_own h.tr ht (fun k hk => by have := hl k hk; omega),h.s.keep ht (hn _ (by omega)) (fun e => hx _ e rfl) (hn _ (by omega)) ⟨h.s.w.p.p.keep ht (hn _ (by omega)) (hn _ (by omega)) (hn _ (by omega)),h.s.w.p.m.turns ht (hn _ (by omega))⟩,hr⟩
end
theorem el140 : ElOk 140 143 4 32 := ElOk.of Tryz.underlying140 (by kernel_rfl)
theorem build140 (x : Re) (W : World) : (Instr.buildSlice 140 1 #[(0,.agg (reL x).toArray)]).run Tryz.prog W = .ok (.slice (some ⟨W.heap.size,0,none⟩) 1 1) (W.alloc (.cells (reL x).toArray 143)) := by
 obtain ⟨s,a,n,g⟩ := x
 kernel_rfl
theorem wpList_build140 {ops : Array Oper} {rest : List Oper} {oi : Oper} {a : Act} {w : World} {Q : Exit → Act → World → Prop} (hgd : oi.guard = none) (y : Operand) (ho : oi.op = .buildSlice 140 1 #[(0,y)]) (p : Re) (hy : a.eval y = .agg (reL p).toArray)
  (h : wpList Tryz.prog ops Q rest (a.put oi.dst (.slice (some ⟨w.heap.size,0,none⟩) 1 1)) (w.alloc (.cells (reL p).toArray 143))) : wpList Tryz.prog ops Q (oi :: rest) a w :=
 wpList_plain hgd fun K hK => by
  have hr := build140 p w
  unfold Oper.wp execOp
  simp only [ho,List.map_toArray,List.map_cons,List.map_nil,hy,Sem.run_bind,Sem.run_pure,Result.andThen_ok,hr]
  exact hK _ _ h
theorem level_any (l : List It) (P : Pl) (hO : PlOk l P) (f : Nat × Nat → Option Wy) (M n : Nat) (hn : n < P.wds.length) (hf : MpOk f) (hM : M + P.sts.length ≤ maxLen) (w : World) (hP : PlM P f M w) :
  Calls Tryz.prog 34 #[.pointer (some ⟨P.B,0,none⟩),.int .i64 n] w fun e w' => e = .returned (.bool (lvE P f n).k) ∧ PlM P (lvE P f n).f (M + P.sts.length) w' ∧ Turns (fun k => k = P.mb) w w' := by
 obtain ⟨m,hmn⟩ : ∃ m : Nat,m = n + 1 := ⟨_,rfl⟩
 have hw257 := hO.nw
 have hlow4 : P.mb < w.heap.size ∧ P.B < w.heap.size ∧ P.gs < w.heap.size ∧ P.gw < w.heap.size := ⟨hP.m.lt,hP.p.lB,hP.p.ls,hP.p.lw⟩
 have hs8 := hO.ns
 have hS0 : Hid (LwS P f M w.heap.size (w.heap.size + 1) n ((w.alloc (.cells #[.pointer (some ⟨P.B,0,none⟩)] 98)).alloc (.cells #[.int .i64 n] 3))) :=
  ⟨hP.below (below2 w _ _),by rw [Lib.cell_of_heap ((Below.heap_alloc _ _ _ (by simp)).trans (World.alloc_heap_new w _))]; rfl,by rw [Lib.cell_of_heap (alloc2_heap w _ _)]; rfl,by simp; omega,by simp⟩
 have hT0 : Hid (Turns (fun k => k = P.mb) w ((w.alloc (.cells #[.pointer (some ⟨P.B,0,none⟩)] 98)).alloc (.cells #[.int .i64 n] 3))) := (Turns.of_below (below2 w _ _)).mono (fun _ h => h.elim)
 have hnu : Hid (∀ W,PlS P W → Calls Tryz.prog 38 #[.pointer (some ⟨P.B,0,none⟩),.int .i64 (m : Nat)] W fun e w' => e = .returned (.int .i64 (nuN P m : Nat)) ∧ Below W.heap.size W w') := fun W hW => (number_any P m (by omega) hw257 W hW).mono fun e w' ⟨h1,h2⟩ => ⟨h1,h2 ▸ Below.refl _ _⟩
 have hli : Hid (∀ W,PlM P f M W → Calls Tryz.prog 61 #[.pointer (some ⟨P.B,0,none⟩)] W fun e w' => e = .returned (.int .i64 (limI P f)) ∧ Below W.heap.size W w') := fun W hW => limit_any P f M hs8 hw257 hf W hW
 clear hP
 have hLe : Hid (lvE P f n = lvN P n (nuN P m) (limI P f) ⟨f,[],false⟩ P.sts.length) := by rw [hmn]; rfl
 generalize lvE P f n = E at *
 go_enter Tryz.func34,Tryz.ntmps34
 go_wp2_with fail
 generalize (w.alloc (.cells #[.pointer (some ⟨P.B,0,none⟩)] 98)).alloc (.cells #[.int .i64 n] 3) = wz at *
 refine lv_r1 _ (fun _ _ _ _ _ h => h) _ _ P f M w.heap.size (w.heap.size + 1) n m wz hS0.out.drew (by omega) (by omega) hnu hli ?_
 intro w1 hb1
 have hI1 : Hid (LvI w P M n f [] (.slice none 0 0) w1) := ⟨hT0.out.trans ((Turns.of_below hb1).mono (fun _ h => h.elim)),hS0.out.below hb1,World.ownsRow_nil _ _ _ _⟩
 have c1 := hI1.out.s.c1
 have d0 := hI1.out.s.p.p.c0
 have hlt4 : Hid (P.mb < w.heap.size ∧ P.B < w.heap.size ∧ P.gs < w.heap.size ∧ P.gw < w.heap.size) := hlow4
 have hLn : Hid (∀ b,b ≤ P.sts.length → MpOk (lvN P n (nuN P m) (limI P f) ⟨f,[],false⟩ b).f ∧ OpOk b (lvN P n (nuN P m) (limI P f) ⟨f,[],false⟩ b).L) := fun b hb => lvN_ok hO hf b hb
 have hl9 : (P.sts.length : Int) ≤ 9000 := by omega
 have hto : Hid (nuN P m ≤ 100000) := by show _ ≤ _; unfold nuN; omega
 have hwd : Hid (P.wds.getD n 0 = P.wds[n]) := by show _ = _; rw [List.getD_eq_getElem?_getD,List.getElem?_eq_getElem hn]; rfl
 have hmN : Hid (∀ b,lvN P n (nuN P m) (limI P f) ⟨f,[],false⟩ (b + 1) = lvS P n (nuN P m) (limI P f) (lvN P n (nuN P m) (limI P f) ⟨f,[],false⟩ b) b) := fun _ => rfl
 have hm0 : Hid (lvN P n (nuN P m) (limI P f) ⟨f,[],false⟩ 0 = ⟨f,[],false⟩) := rfl
 have hOh : Hid (PlOk l P) := hO
 have hMh : Hid (M + P.sts.length ≤ maxLen) := hM
 have hM0 : ∃ M0,M0 = M := ⟨M,rfl⟩
 clear hS0 hT0 hb1 hnu hli hlow4 hO hM hmn
 generalize hNN : lvN P n (nuN P m) (limI P f) ⟨f,[],false⟩ = N at *
 clear hNN
 generalize nuN P m = to at *
 generalize limI P f = lim at *
 unfold fr34
 go_wp2_with fail
 clear c1 d0
 go_loopw [7,8,25] (fun v7 v8 v25 wr => ∃ (b M1 : Nat),b ≤ P.sts.length ∧ v25 = .int .i64 b ∧ v7 = .bool (N b).k ∧ Hid (M1 ≤ M + b) ∧ Hid (LvI w P M1 n (N b).f (N b).L v8 wr)) (fun _ _ v25 _ => P.sts.length - (intOf v25).toNat)
 case atStart => exact ⟨0,M,by omega,rfl,by rw [hm0.out],Nat.le_refl _,by rw [hm0.out]; exact hI1⟩
 case round =>
  obtain ⟨b,M1,hb,rfl,rfl,hM1,hI⟩ := hrel
  clear hI1 hm0
  by_cases hlt : b < P.sts.length
  ·have hlt' : (b : Int) < P.sts.length := by omega
   have hNb := hmN.out b
   have hNbh : Hid (N (b + 1) = _) := hNb
   obtain ⟨hmp,hop⟩ := hLn.out b hb
   have hmph : Hid (MpOk (N b).f) := hmp
   have hoph : Hid (OpOk b (N b).L) := hop
   have hI2 := hI.out
   clear hNb hmN hmp hop hLn hLe
   generalize N b = s at *
   obtain ⟨F,L,kk⟩ := s
   have hop2 : Hid (OpOk b L) := hoph
   have hJ : Hid (LvJ w P M1 n F L u8 wr.heap.size b (wr.alloc (.cells #[.int .i64 b] 3))) := by
    have hb1 := (Below.refl wr.heap.size wr).alloc (Nat.le_refl _) (.cells #[.int .i64 b] 3)
    exact ⟨hI2.tr.trans ((Turns.of_below hb1).mono (fun _ h => h.elim)),⟨hI2.s.below hb1,by rw [Lib.cell_of_heap (World.alloc_heap_new wr _)]; rfl,by simp⟩,ownsRow_below hI2.row hb1⟩
   have hxz : Hid (w.heap.size ≤ wr.heap.size ∧ w.heap.size + 2 ≤ wr.heap.size) := ⟨hI2.tr.size,by have := hI2.s.l3; omega⟩
   have hxo : Hid (∀ g,u8.ownBlock = some g → wr.heap.size ≠ g) := fun g hg => by have := (hI2.row.lt g hg).2; omega
   have hdl : Hid (Calls Tryz.prog 62 #[u8,.func (.func 63) #[] #[.pointer (some ⟨w.heap.size,0,none⟩),.pointer (some ⟨wr.heap.size,0,none⟩),.pointer (some ⟨w.heap.size + 1,0,none⟩)]] (wr.alloc (.cells #[.int .i64 b] 3)) fun e w' => (∃ v',e = .returned v' ∧ w'.ownsRow (w.heap.size + 2) 143 4 v' (dlL P b n L).length ((dlL P b n L).flatMap reL) ∧ v'.ownBlock = u8.ownBlock) ∧ Turns (fun k => u8.ownBlock = some k) (wr.alloc (.cells #[.int .i64 b] 3)) w') :=
    delete_any l P hOh.out w.heap.size wr.heap.size (w.heap.size + 1) b n (w.heap.size + 2) u8 L (by have := hop2.out.2; omega) (fun x hx => by have := (hop2.out.1 x hx).1; omega) hlt hn _ hJ.out.s.cl (by have := hxz.out.2; simp; omega) (fun g hg => by
     have h1 := (hI2.row.lt g hg).1
     have h2 := hxo.out g hg
     have h3 := hlt4.out
     exact ⟨by omega,by omega,by omega,by omega,h2,by omega⟩) hJ.out.row
   have hNF : Hid (N (b + 1) = ⟨lvF F (b,to) (reO P b P.wds[n] (dlL P b n L)),lvL b lim (dlL P b n L) (lvF F (b,to) (reO P b P.wds[n] (dlL P b n L)) (b,n)),kk || (reO P b P.wds[n] (dlL P b n L)).isSome⟩) := by
    have := hNbh.out
    unfold lvS at this
    rw [hwd.out] at this
    exact this
   have hMl : Hid (M1 < maxLen ∧ M1 + 1 ≤ M + (b + 1)) := ⟨by have := hMh.out; have := hM1.out; omega,by have := hM1.out; omega⟩
   have hre : Hid (∀ W v,PlS P W → W.ownsRow (w.heap.size + 2) 143 4 v (dlL P b n L).length ((dlL P b n L).flatMap reL) → Calls Tryz.prog 65 #[.pointer (some ⟨P.B,0,none⟩),v,.int .i64 b,.int .i64 P.wds[n]] W fun e w' => e = .returned (.tuple #[.agg (wyL ((reO P b P.wds[n] (dlL P b n L)).getD wy0)).toArray,.bool (reO P b P.wds[n] (dlL P b n L)).isSome]) ∧ Below W.heap.size W w') := fun W v h1 h2 =>
    reach_any l P hOh.out v (dlL P b n L) (by have := (dl_ok (P := P) (n := n) hop2.out).2; omega) (op_re (dl_ok hop2.out) hlt hs8.2) b hlt P.wds[n] (hOh.out.w _ (List.getElem_mem hn)) W h1 (rec_of_row reL_len rfl h2)
   have hDl : Hid ((dlL P b n L).length ≤ 9000) := by have := (dl_ok (P := P) (n := n) hop2.out).2; show _ ≤ _; omega
   have hkk : ((⟨F,L,kk⟩ : Lv).k) = kk := rfl
   rw [hkk]
   clear hkk hI2 hI hoph hmph hNbh hwd hop2 hOh hM1 hMh hf
   generalize dlL P b n L = D at *
   go_wp2_with (go_at_call 62; refine hdl.out.mono ?_; rintro e w3 ⟨⟨v',rfl,hr3,hob3⟩,ht3⟩; have hJ3 : Hid (LvJ w P M1 n F D v' wr.heap.size b w3) := hJ.out.del hr3 ht3 hxo.out hlt4.out; clear hr3 hob3 ht3 hJ hdl hxo)
   refine lv_r7 _ (fun _ _ _ _ _ h => h) _ _ P F M1 w.heap.size wr.heap.size (w.heap.size + 1) b n v' D w3 w3 (below_drew w3) hJ3.out.s.drew hn (by omega) hJ3.out.s (fun W hW => hre.out W v' (hJ3.out.next hW).s.w.p.p (hJ3.out.next hW).row) (fun R w4 hb4 hS4 hR4 => ?_)
   have hb5 : Below w3.heap.size w3 (w4.setRow R (wyL ((reO P b P.wds[n] D).getD wy0)).toArray) := hb4.trans ((Turns.setRow (X := fun k => k = R) _ rfl _).below hb4.size (fun k hk => by have := hR4.1; omega))
   have hJ5 : Hid (LvJ w P M1 n F D v' wr.heap.size b (w4.setRow R (wyL ((reO P b P.wds[n] D).getD wy0)).toArray)) := hJ3.out.next hb5
   have hR5 : (w4.setRow R (wyL ((reO P b P.wds[n] D).getD wy0)).toArray).heap[R]? = some (.cells (wyL ((reO P b P.wds[n] D).getD wy0)).toArray 58 (0,0)) := setRow_heap _ _ _ _ _ _ hR4.2
   clear hre hb4 hS4 hR4 hb5 hJ3
   generalize reO P b P.wds[n] D = r at *
   generalize w4.setRow R (wyL (r.getD wy0)).toArray = w5 at *
   have hsp : Hid (SpB (b,to) ∧ SpB (b,n)) := ⟨⟨by show b ≤ _; omega,hto.out⟩,⟨by show b ≤ _; omega,by show n ≤ _; omega⟩⟩
   cases r with
   | none =>
    clear hR5
    unfold fr34
    go_wp2_with fail
    refine lv_r11 _ (fun _ _ _ _ _ h => h) _ _ P F M1 w.heap.size wr.heap.size (w.heap.size + 1) b n w5 hJ5.out.s.drew hsp.out.2 ?_
    intro w7 hb7 hT7 hS7
    have hJ7 : Hid (LvJ w P M1 n F D v' wr.heap.size b w7) := hJ5.out.next hb7
    clear hb7 hS7 hJ5
    generalize (w5).heap.size = T at *
    have hNe : Hid (N (b + 1) = ⟨F,lvL b lim D (F (b,n)),kk || (none : Option Wy).isSome⟩) := hNF.out
    clear hNF
    cases hg : F (b,n) with
    | none =>
     rw [hg] at hT7 hNe
     clear hg hT7
     unfold fr34
     go_wp2_with fail
     exact ⟨⟨b + 1,M1,by omega,by simp,by rw [hNe.out]; simp,by have := hMl.out.2; show _ ≤ _; omega,by rw [hNe.out]; exact hJ7.out.i⟩,by simp [intOf]; omega⟩
    | some y2 =>
     rw [hg] at hT7 hNe
     have hT8 : w7.heap[T]? = some (.cells #[.int .i64 y2.d,.int .i64 y2.n,.int .i64 y2.f] 58 (0,0)) := hT7
     have e0 : w7.cell? ⟨T,0,none⟩ = some (.int .i64 y2.d) := by rw [Lib.cell_of_heap hT8]; rfl
     have k2 := hJ7.out.s.c2
     clear hg hT7
     by_cases hlm : y2.d < lim
     ·have hLL : Hid (lvL b lim D (some y2) = D ++ [⟨b,y2⟩]) := if_pos hlm
      have hD9 : Hid (D.length ≤ 9000) := hDl.out
      have hbz : Hid (w.heap.size + 2 ≤ w7.heap.size) := by have := hJ7.out.s.w.l3; show _ ≤ _; omega
      unfold fr34
      go_wp2_with (first | (refine wpList_load_row rfl 58 _ rfl T rfl 58 _ (0,0) _ hT8 Tryz.underlying58 rfl (info58 y2) ?_) | (refine wpList_build140 rfl _ rfl ⟨b,y2⟩ rfl ?_) | (refine wpList_app1 (k := 4) (f := reL) (w0 := w7) (bytes := 32) rfl el140 reL_len reL_one (by omega) (by omega) _ _ rfl (w.heap.size + 2) v' D ⟨b,y2⟩ rfl hJ7.out.row hbz.out hD9.out rfl rfl ?_; intro v9 w9 hr9 hb9; have hI9 : Hid (LvI w P M1 n F (D ++ [⟨b,y2⟩]) v9 w9) := hJ7.out.app hr9 hb9 hlt4.out; clear hr9 hb9 hJ7))
      exact ⟨⟨b + 1,M1,by omega,by simp,by rw [hNe.out]; simp,by have := hMl.out.2; show _ ≤ _; omega,by rw [hNe.out,hLL.out]; exact hI9⟩,by simp [intOf]; omega⟩
     ·have hLL : Hid (lvL b lim D (some y2) = D) := if_neg hlm
      unfold fr34
      go_wp2_with fail
      exact ⟨⟨b + 1,M1,by omega,by simp,by rw [hNe.out]; simp,by have := hMl.out.2; show _ ≤ _; omega,by rw [hNe.out,hLL.out]; exact hJ7.out.i⟩,by simp [intOf]; omega⟩
   | some y =>
    have hR6 : w5.heap[R]? = some (.cells (wyL y).toArray 58 (0,0)) := hR5
    have hke : Hid (Calls Tryz.prog 66 #[.pointer (some ⟨P.B,0,none⟩),.agg #[.int .i64 b,.int .i64 to],.agg #[.int .i64 y.d,.int .i64 y.n,.int .i64 y.f]] w5 fun e w' => e = .returned (.tuple #[]) ∧ PlM P (keF F (b,to) y) (M1 + 1) w' ∧ Turns (fun k => k = P.mb) w5 w') := lkeep_any P F M1 (b,to) y hsp.out.1 hMl.out.1 w5 hJ5.out.s.w.p
    have k1 := hJ5.out.s.w.c1
    have k2 := hJ5.out.s.c2
    clear hR5
    unfold fr34
    go_wp2_with (first | (refine wpList_load_row rfl 58 _ rfl R rfl 58 _ (0,0) _ hR6 Tryz.underlying58 rfl (info58 _) ?_) | (go_at_call 66; refine hke.out.mono ?_; rintro e w6 ⟨rfl,hp6,ht6⟩; have hJ6 : Hid (LvJ w P (M1 + 1) n (keF F (b,to) y) D v' wr.heap.size b w6) := hJ5.out.put ht6 hp6 hlt4.out.1 hxz.out.1; clear hp6 ht6 hke hJ5 hR6 k1 k2))
    refine lv_r11 _ (fun _ _ _ _ _ h => h) _ _ P (keF F (b,to) y) (M1 + 1) w.heap.size wr.heap.size (w.heap.size + 1) b n w6 hJ6.out.s.drew hsp.out.2 ?_
    intro w7 hb7 hT7 hS7
    have hJ7 : Hid (LvJ w P (M1 + 1) n (keF F (b,to) y) D v' wr.heap.size b w7) := hJ6.out.next hb7
    clear hb7 hS7 hJ6
    generalize (w6).heap.size = T at *
    have hNe : Hid (N (b + 1) = ⟨(keF F (b,to) y),lvL b lim D ((keF F (b,to) y) (b,n)),kk || ((some y) : Option Wy).isSome⟩) := hNF.out
    clear hNF
    cases hg : (keF F (b,to) y) (b,n) with
    | none =>
     rw [hg] at hT7 hNe
     clear hg hT7
     unfold fr34
     go_wp2_with fail
     exact ⟨⟨b + 1,(M1 + 1),by omega,by simp,by rw [hNe.out]; simp,by have := hMl.out.2; show _ ≤ _; omega,by rw [hNe.out]; exact hJ7.out.i⟩,by simp [intOf]; omega⟩
    | some y2 =>
     rw [hg] at hT7 hNe
     have hT8 : w7.heap[T]? = some (.cells #[.int .i64 y2.d,.int .i64 y2.n,.int .i64 y2.f] 58 (0,0)) := hT7
     have e0 : w7.cell? ⟨T,0,none⟩ = some (.int .i64 y2.d) := by rw [Lib.cell_of_heap hT8]; rfl
     have k2 := hJ7.out.s.c2
     clear hg hT7
     by_cases hlm : y2.d < lim
     ·have hLL : Hid (lvL b lim D (some y2) = D ++ [⟨b,y2⟩]) := if_pos hlm
      have hD9 : Hid (D.length ≤ 9000) := hDl.out
      have hbz : Hid (w.heap.size + 2 ≤ w7.heap.size) := by have := hJ7.out.s.w.l3; show _ ≤ _; omega
      unfold fr34
      go_wp2_with (first | (refine wpList_load_row rfl 58 _ rfl T rfl 58 _ (0,0) _ hT8 Tryz.underlying58 rfl (info58 y2) ?_) | (refine wpList_build140 rfl _ rfl ⟨b,y2⟩ rfl ?_) | (refine wpList_app1 (k := 4) (f := reL) (w0 := w7) (bytes := 32) rfl el140 reL_len reL_one (by omega) (by omega) _ _ rfl (w.heap.size + 2) v' D ⟨b,y2⟩ rfl hJ7.out.row hbz.out hD9.out rfl rfl ?_; intro v9 w9 hr9 hb9; have hI9 : Hid (LvI w P (M1 + 1) n (keF F (b,to) y) (D ++ [⟨b,y2⟩]) v9 w9) := hJ7.out.app hr9 hb9 hlt4.out; clear hr9 hb9 hJ7))
      exact ⟨⟨b + 1,(M1 + 1),by omega,by simp,by rw [hNe.out]; simp,by have := hMl.out.2; show _ ≤ _; omega,by rw [hNe.out,hLL.out]; exact hI9⟩,by simp [intOf]; omega⟩
     ·have hLL : Hid (lvL b lim D (some y2) = D) := if_neg hlm
      unfold fr34
      go_wp2_with fail
      exact ⟨⟨b + 1,(M1 + 1),by omega,by simp,by rw [hNe.out]; simp,by have := hMl.out.2; show _ ≤ _; omega,by rw [hNe.out,hLL.out]; exact hJ7.out.i⟩,by simp [intOf]; omega⟩
  ·have hge : ¬ (b : Int) < P.sts.length := by omega
   obtain rfl : b = P.sts.length := by omega
   have hfin : Hid (PlM P E.f (M + P.sts.length) wr ∧ Turns (fun k => k = P.mb) w wr) := by
    rw [hLe.out]
    exact ⟨⟨hI.out.s.p.p,hI.out.s.p.m.mono hM1.out⟩,hI.out.tr⟩
   have hk : Hid ((N P.sts.length).k = E.k) := by rw [hLe.out]; rfl
   clear hI hLn hmN hOh hMh
   go_wp2_with fail
   go_ret
   exact ⟨by rw [hk.out]; rfl,hfin.out⟩
end Go.Proofs.YtfndocmgonlhpaaGreatDoor

namespace Go.Proofs.YtfndocmgonlhpaaGreatDoor
open Go.RowKit Go.Shelf
set_option maxRecDepth 100000
set_option maxHeartbeats 2000000

def srN (P : Pl) : Nat → Nat → (Nat × Nat → Option Wy) → Nat × Nat → Option Wy
 | 0,_,f => f
 | k + 1,n,f => if (lvE P f n).k = true then srN P k (n + 1) (lvE P f n).f else (lvE P f n).f
def srF (P : Pl) (f : Nat × Nat → Option Wy) : Nat × Nat → Option Wy := srN P P.wds.length 0 (updW f (0,0) wy0)
theorem srN_ok {l : List It} {P : Pl} (hO : PlOk l P) : ∀ k n f,MpOk f → MpOk (srN P k n f)
 | 0,_,_,h => h
 | k + 1,n,f,h => by
  unfold srN
  split
  ·exact srN_ok hO k _ _ (lvE_ok hO h n)
  ·exact lvE_ok hO h n
theorem up_ok {f : Nat × Nat → Option Wy} (h : MpOk f) : MpOk (updW f (0,0) wy0) := fun c x hx => by
 unfold updW at hx
 split at hx
 ·rename_i e
  cases hx; rw [e]
  exact ⟨⟨Int.le_refl _,Int.le_refl _⟩,Nat.le_refl _,Nat.le_refl _,Nat.zero_le _⟩
 ·exact h c x hx
theorem srF_ok {l : List It} {P : Pl} (hO : PlOk l P) {f : Nat × Nat → Option Wy} (h : MpOk f) : MpOk (srF P f) := srN_ok hO _ _ _ (up_ok h)
theorem search_any (l : List It) (P : Pl) (hO : PlOk l P) (f : Nat × Nat → Option Wy) (M : Nat) (hf : MpOk f) (hM : M + 1 + P.wds.length * P.sts.length ≤ maxLen) (w : World) (hP : PlM P f M w) :
  Calls Tryz.prog 15 #[.pointer (some ⟨P.B,0,none⟩)] w fun e w' => e = .returned (.tuple #[]) ∧ (∃ M',PlM P (srF P f) M' w') ∧ Turns (fun k => k = P.mb) w w' := by
 have hw257 := hO.nw
 have c1 := hP.p.c1
 have c2 := hP.p.c2
 obtain ⟨w1,hrun0,hm1,ht1⟩ := hP.m.put (by omega) (0,0) ⟨by show 0 ≤ _; omega,by show 0 ≤ _; omega⟩ wy0
 have hrun : (Instr.mapUpdate 54 (.map (some P.mb)) (.agg #[.int .i64 0,.int .i64 0]) (.agg #[.int .i64 0,.int .i64 0,.int .i64 0])).run Tryz.prog w = .ok () w1 := hrun0
 have hP1 : Hid (PlM P (updW f (0,0) wy0) (M + 1) w1) := ⟨hP.p.map ht1,hm1⟩
 have c1' := hP1.out.p.c1
 have ht1h : Hid (Turns (fun k => k = P.mb) w w1) := ht1
 have hmp : Hid (MpOk (updW f (0,0) wy0)) := up_ok hf
 have hR : Hid (srN P P.wds.length 0 (updW f (0,0) wy0) = srF P f) := rfl
 have hOh : Hid (PlOk l P) := hO
 have hMh : Hid (M + 1 + (P.wds.length - 0) * P.sts.length ≤ maxLen) := hM
 have hw2 : (P.wds.length : Int) ≤ 257 := by omega
 clear hP hO hrun0 hm1 ht1 hM hf
 generalize srF P f = R at *
 generalize updW f (0,0) wy0 = f0 at *
 go_enter Tryz.func15,Tryz.ntmps15
 go_wp2_with fail
 clear c1 c2 c1' hrun
 go_loopw [14] (fun v14 wr => ∃ (n M1 : Nat) (F : Nat × Nat → Option Wy),n ≤ P.wds.length ∧ v14 = .int .i64 n ∧ Hid (M1 + (P.wds.length - n) * P.sts.length ≤ maxLen) ∧ Hid (PlM P F M1 wr) ∧ Hid (Turns (fun k => k = P.mb) w wr) ∧ Hid (MpOk F) ∧ Hid (srN P (P.wds.length - n) n F = R)) (fun v14 _ => P.wds.length - (intOf v14).toNat)
 case atStart => exact ⟨0,M + 1,f0,by omega,rfl,hMh,hP1,ht1h,hmp,hR⟩
 case round =>
  obtain ⟨n,M1,F,hn,rfl,hMx,hPx,htx,hmx,hRx⟩ := hrel
  clear hP1 ht1h hmp hR hMh
  by_cases hlt : n < P.wds.length
  ·have hlt' : (n : Int) < P.wds.length := by omega
   obtain ⟨j,hj⟩ : ∃ j,P.wds.length - n = j + 1 := ⟨P.wds.length - n - 1,by omega⟩
   have hM2 : Hid (M1 + P.sts.length + j * P.sts.length ≤ maxLen) := by
    have := hMx.out
    rw [hj,Nat.succ_mul] at this
    show _ ≤ _; omega
   have hjn : Hid (P.wds.length - (n + 1) = j) := by show _ = _; omega
   have hR2 : Hid ((if (lvE P F n).k = true then srN P j (n + 1) (lvE P F n).f else (lvE P F n).f) = R) := by
    have := hRx.out
    rw [hj] at this
    exact this
   have hlv : Hid (Calls Tryz.prog 34 #[.pointer (some ⟨P.B,0,none⟩),.int .i64 n] wr fun e w' => e = .returned (.bool (lvE P F n).k) ∧ PlM P (lvE P F n).f (M1 + P.sts.length) w' ∧ Turns (fun k => k = P.mb) wr w') := level_any l P hOh.out F M1 n hlt hmx.out (by have := hM2.out; omega) wr hPx.out
   have hm2 : Hid (MpOk (lvE P F n).f) := lvE_ok hOh.out hmx.out n
   clear hMx hRx hj hPx hmx
   generalize lvE P F n = E at *
   obtain ⟨G,L,kk⟩ := E
   have hlv2 : Hid (Calls Tryz.prog 34 #[.pointer (some ⟨P.B,0,none⟩),.int .i64 n] wr fun e w' => e = .returned (.bool kk) ∧ PlM P G (M1 + P.sts.length) w' ∧ Turns (fun k => k = P.mb) wr w') := hlv
   have hm3 : Hid (MpOk G) := hm2
   have hR3 : Hid ((if kk = true then srN P j (n + 1) G else G) = R) := hR2
   clear hlv hm2 hR2
   cases kk with
   | true =>
    go_wp2_with (go_at_call 34; refine hlv2.out.mono ?_; rintro e w3 ⟨rfl,hp3,ht3⟩; have hp3h : Hid (PlM P G (M1 + P.sts.length) w3) := hp3; have ht3h : Hid (Turns (fun k => k = P.mb) w w3) := htx.out.trans ht3; clear hp3 ht3 hlv2 htx)
    exact ⟨⟨n + 1,M1 + P.sts.length,G,by omega,by simp,by rw [hjn.out]; exact hM2,hp3h,ht3h,hm3,by rw [hjn.out]; exact hR3⟩,by simp [intOf]; omega⟩
   | false =>
    go_wp2_with (go_at_call 34; refine hlv2.out.mono ?_; rintro e w3 ⟨rfl,hp3,ht3⟩; have hp3h : Hid (PlM P G (M1 + P.sts.length) w3) := hp3; have ht3h : Hid (Turns (fun k => k = P.mb) w w3) := htx.out.trans ht3; clear hp3 ht3 hlv2 htx)
    have hRG : G = R := hR3.out
    exact bodyPost_ret (v := .tuple #[]) (by kernel_rfl) rfl ⟨rfl,⟨_,hRG ▸ hp3h.out⟩,ht3h.out⟩
  ·have hge : ¬ (n : Int) < P.wds.length := by omega
   have hRF : Hid (F = R) := by
    have := hRx.out
    rw [show P.wds.length - n = 0 by omega] at this
    exact this
   clear hRx hMx
   go_wp2_with fail
   exact bodyPost_end (v := .tuple #[]) (by kernel_rfl) rfl ⟨rfl,⟨M1,hRF.out ▸ hPx.out⟩,htx.out⟩
end Go.Proofs.YtfndocmgonlhpaaGreatDoor
