/-
  What is proved here: the map of ways in memory, read, turned and kept.
  What is proved here: a plan in memory; what number and MinFunc answer.
  What is proved here: the items of blanks, tabs and soft hyphens, as alone tells them; how wide a hyphen is.
  What is proved here: the drawn region of end of least.
  What is proved here: what limit and keep of least do.
-/
import Derived.Test.YtfiekhephkpdjaaGreatDoorG25
import Derived.Maps.OwnSet
import Derived.DeepKeys4
import Derived.Test.YtfiekhephkpdjaaGreatDoorG4
import Derived.Test.YtfiekhephkpdjaaGreatDoorG12
import Derived.Laws.ResultCell
import Derived.Test.YtfiekhephkpdjaaGreatDoorG1
namespace Go.Proofs.YtfiekhephkpdjaaGreatDoor
open Go.RowKit Go.Shelf
open Go.Maps (Keyed)
set_option maxRecDepth 100000

theorem row100 : (192 : TypeId) < Tryz.prog.types.size := of_decide_eq_true (by kernel_rfl)
theorem wide100 : (match Tryz.prog.underlying 192 with | some (.array _ _) | some (.struct _) => true | _ => false) = true := by rw [Tryz.underlying192]
theorem kt100 : Tryz.prog.keyTypeAt 2 192 = true := by kernel_rfl
theorem two10000 : 2 + 1 ≤ 10000 := by omega
theorem law100 : Keyed Tryz.prog 192 := Keyed.of_law (deep_law_laid (m := 2) laidOut two10000 row100 kt100 wide100)
def SpB (c : Nat × Nat) : Prop := c.1 ≤ 100000 ∧ c.2 ≤ 100000
def spV (c : Nat × Nat) : Value := .agg #[.int .i64 c.1,.int .i64 c.2]
def enS (c : Nat × Nat) : Lit := .string (keyBytes [.int .i64 c.1,.int .i64 c.2])
theorem lits3 {n : Int} (d : Nat) (h : (Lit.int .i64 n).wf = true) : Tryz.prog.keyLits (d + 1) 3 [.int .i64 n] = some [.int .i64 n] := by
 unfold Program.keyLits
 rw [Tryz.underlying3]
 simp [h]
theorem keyOf100 {c : Nat × Nat} (h : SpB c) : keyOf Tryz.prog 192 (spV c) = some (enS c) := by
 obtain ⟨i,j⟩ := c
 obtain ⟨h1,h2⟩ := h
 simp only at h1 h2
 have m1 : IntKind.i64.min = -9223372036854775808 := rfl
 have m2 : IntKind.i64.max = 9223372036854775807 := rfl
 have w1 : (Lit.int .i64 (i : Int)).wf = true := by simp [Lit.wf,m1,m2]; omega
 have w2 : (Lit.int .i64 (j : Int)).wf = true := by simp [Lit.wf,m1,m2]; omega
 have hs : Tryz.prog.types.size = 321 + 1 + 1 := by kernel_rfl
 have hk : Tryz.prog.keyType 192 = true := by kernel_rfl
 have hf : (spV (i,j)).formed Tryz.prog 192 = true := by kernel_rfl
 have c1 : Tryz.prog.cellsOf 192 = 2 := by kernel_rfl
 have c3 : Tryz.prog.cellsOf 3 = 1 := by kernel_rfl
 have hl : Tryz.prog.keyLits (Tryz.prog.types.size + 1) 192 (spV (i,j)).cells.toList = some [.int .i64 i,.int .i64 j] := by
  rw [hs]
  unfold Program.keyLits
  rw [Tryz.underlying192]
  show (if _ then _ else _) = _
  rw [if_pos ⟨by rw [c1]; rfl,by kernel_rfl⟩]
  simp only [List.mapM_cons,List.mapM_nil,c3]
  rw [show List.take 1 (List.drop 0 (spV (i,j)).cells.toList) = [.int .i64 (i : Int)] from rfl,show List.take 1 (List.drop 1 (spV (i,j)).cells.toList) = [.int .i64 (j : Int)] from rfl,lits3 _ w1,lits3 _ w2]
  rfl
 unfold keyOf
 rw [Tryz.underlying192]
 show (if _ then _ else _) = _
 rw [hk,hf,hl]
 rfl
theorem enS_inj {a b : Nat × Nat} (ha : SpB a) (hb : SpB b) (h : enS a = enS b) : a = b := by
 have h1 := keyOf100 ha
 have h2 := keyOf100 hb
 rw [← h] at h2
 have h3 := law100.inj h1 h2
 obtain ⟨a1,a2⟩ := a
 obtain ⟨b1,b2⟩ := b
 simp only [spV] at h3
 simp at h3
 have e1 : a1 = b1 := by omega
 have e2 : a2 = b2 := by omega
 rw [e1,e2]
theorem enS_key (a : Nat × Nat) : WideAt.IsKeyLit (enS a) := trivial
def R0 (v : Value) : Option (DataW Value × List MemPlace) := some (.held v,[])
def wyV (x : Wy) : Value := .agg #[.int .i64 x.d,.int .i64 x.n,.int .i64 x.f]
def MapW (w : World) (mb : Nat) (f : Nat × Nat → Option Wy) (M : Nat) : Prop :=
 ∃ D,w.ownsMap Tryz.prog 192 R0 mb M D ∧ ∀ c,SpB c → ∀ z,D.atKey (enS c) z = (f c).elim z (fun y => .held (wyV y))
section
variable {w w' : World} {mb M : Nat} {f : Nat × Nat → Option Wy}
theorem MapW.lt (h : MapW w mb f M) : mb < w.heap.size := by obtain ⟨D,h1,_⟩ := h; exact h1.lt
theorem MapW.same (h : MapW w mb f M) (hb : w'.heap[mb]? = w.heap[mb]?) : MapW w' mb f M := by
 obtain ⟨D,⟨es,clock,hb2,r⟩,h2⟩ := h
 exact ⟨D,⟨es,clock,hb.trans hb2,r⟩,h2⟩
theorem MapW.turns {X : Nat → Prop} (h : MapW w mb f M) (ht : Turns X w w') (hx : ¬ X mb) : MapW w' mb f M := h.same (ht.block mb h.lt hx)
theorem MapW.below {n : Nat} (h : MapW w mb f M) (hb : Below n w w') (hn : mb < n) : MapW w' mb f M := h.same (hb.block mb hn)
theorem MapW.made (w : World) : MapW (w.alloc (.map #[] 0)) w.heap.size (fun _ => none) 0 :=
 ⟨.map [],World.ownsMap_made w Tryz.prog 192 R0,fun c _ z => by
  show DataW.atKey (.map []) (enS c) z = z
  rfl⟩
theorem zero58 (w : World) : (zeroValue 141).run Tryz.prog w = .ok (wyV wy0) w := by kernel_rfl
theorem MapW.look_ok (h : MapW w mb f M) (c : Nat × Nat) (hc : SpB c) : (Instr.lookup 137 (.map (some mb)) (spV c) true).run Tryz.prog w = .ok (.tuple #[wyV ((f c).getD wy0),.bool (f c).isSome]) w := by
 obtain ⟨D,h1,h2⟩ := h
 have h3 : Maps.has D (enS c) = (f c).isSome := by
  cases hf : f c with
  | none => exact Maps.has_false_of_atKey fun z => by rw [h2 c hc,hf]; rfl
  | some u => exact Maps.has_true_of_atKey (y := .held (wyV u)) fun z => by rw [h2 c hc,hf]; rfl
 obtain ⟨v,ps,hrun,hv⟩ := h1.look_ok law100 Tryz.underlying137 (zero58 w) (zd := .held (wyV wy0)) (zp := []) rfl (keyOf100 hc)
 simp only [R0,Option.some.injEq,Prod.mk.injEq] at hv
 obtain ⟨hv,_⟩ := hv
 rw [h2 c hc] at hv
 rw [hrun,h3]
 cases hf : f c with
 | none => rw [hf] at hv; cases hv; rfl
 | some u => rw [hf] at hv; cases hv; rfl
def updW (f : Nat × Nat → Option Wy) (c : Nat × Nat) (x : Wy) : Nat × Nat → Option Wy := fun a => if a = c then some x else f a
theorem MapW.put (h : MapW w mb f M) (hM : M < maxLen) (c : Nat × Nat) (hc : SpB c) (x : Wy) :
  ∃ w',(Instr.mapUpdate 137 (.map (some mb)) (spV c) (wyV x)).run Tryz.prog w = .ok () w' ∧ MapW w' mb (updW f c x) (M + 1) ∧ Turns (fun k => k = mb) w w' := by
 obtain ⟨D,h1,h2⟩ := h
 obtain ⟨w',hrun,ho,hg⟩ := h1.update law100 Tryz.underlying137 hM (keyOf100 hc) (val := wyV x) (d := .held (wyV x)) (ps := []) rfl
 refine ⟨w',hrun,⟨_,ho,fun a ha z => ?_⟩,⟨hg.os,hg.tape,hg.output,hg.size,fun k hk hx => hg.block k hk (by simp; exact hx)⟩⟩
 unfold updW
 by_cases e : a = c
 ·subst e
  rw [if_pos rfl]
  exact Maps.atKey_put_same h1.isMap (enS_key _) _ _
 ·rw [if_neg e,Maps.atKey_put_other (fun h => e (enS_inj ha hc h)),h2 a ha]
end
end Go.Proofs.YtfiekhephkpdjaaGreatDoor

namespace Go.Proofs.YtfiekhephkpdjaaGreatDoor
open Go.RowKit Go.Shelf
set_option maxRecDepth 100000
set_option maxHeartbeats 1000000

structure Pl where
 B : Nat
 gs : Nat
 os : Nat
 cs : Nat
 gw : Nat
 ow : Nat
 cw : Nat
 mb : Nat
 sts : List St
 wds : List Int
structure PlS (P : Pl) (W : World) : Prop where
 obj : W.heap[P.B]? = some (.cells #[.slice (some ⟨P.gs,P.os,none⟩) P.sts.length P.cs,.slice (some ⟨P.gw,P.ow,none⟩) P.wds.length P.cw,.map (some P.mb)] 139 (0,0))
 st : ∀ i (hi : i < P.sts.length),StAt P.gs (P.os + i * 12) P.sts[i] W
 wd : ∀ i (hi : i < P.wds.length),W.cell? ⟨P.gw,P.ow + i,none⟩ = some (.int .i64 P.wds[i])
 lw : P.gw < W.heap.size
 ls : P.gs < W.heap.size
 nB : P.B ≠ P.mb
 ns : P.gs ≠ P.mb
 nw : P.gw ≠ P.mb
structure PlOk (l : List It) (P : Pl) : Prop where
 ck : ckL l = 0
 f : ∀ x ∈ P.sts,StF l x ∧ StOk x
 w : ∀ x ∈ P.wds,0 ≤ x ∧ x ≤ 4095
 ns : 0 < P.sts.length ∧ P.sts.length ≤ 8193
 nw : 0 < P.wds.length ∧ P.wds.length ≤ 257
section
variable {P : Pl} {W W' : World}
theorem PlS.lB (h : PlS P W) : P.B < W.heap.size := (Array.getElem?_eq_some_iff.1 h.obj).1
theorem PlS.keep {X : Nat → Prop} (h : PlS P W) (ht : Turns X W W') (h1 : ¬ X P.B) (h2 : ¬ X P.gs) (h3 : ¬ X P.gw) : PlS P W' :=
 ⟨(ht.block _ h.lB h1).trans h.obj, fun i hi => (h.st i hi).turns ht h2, fun i hi => by
   have e := ht.block P.gw h.lw h3
   have := h.wd i hi
   unfold World.cell? at this ⊢
   simp only [e]
   exact this,Nat.lt_of_lt_of_le h.lw ht.size,Nat.lt_of_lt_of_le h.ls ht.size,h.nB,h.ns,h.nw⟩
theorem PlS.below (h : PlS P W) (hb : Below W.heap.size W W') : PlS P W' := h.keep (Turns.of_below hb) (fun h => h) (fun h => h) (fun h => h)
theorem PlS.map (h : PlS P W) (ht : Turns (fun k => k = P.mb) W W') : PlS P W' := h.keep ht h.nB h.ns h.nw
theorem PlS.drew (h : PlS P W) : PlS P W.drew := h.keep (Turns.drew Noth W) (fun h => h) (fun h => h) (fun h => h)
theorem PlS.c0 (h : PlS P W) : W.cell? ⟨P.B,0,none⟩ = some (.slice (some ⟨P.gs,P.os,none⟩) P.sts.length P.cs) := by rw [Lib.cell_of_heap h.obj]; rfl
theorem PlS.c1 (h : PlS P W) : W.cell? ⟨P.B,1,none⟩ = some (.slice (some ⟨P.gw,P.ow,none⟩) P.wds.length P.cw) := by rw [Lib.cell_of_heap h.obj]; rfl
theorem PlS.c2 (h : PlS P W) : W.cell? ⟨P.B,2,none⟩ = some (.map (some P.mb)) := by rw [Lib.cell_of_heap h.obj]; rfl
end
def nuN (P : Pl) (n : Nat) : Nat := min n (P.wds.length - 1)
theorem number_any (P : Pl) (n : Nat) (_hn : n ≤ 100000) (hw : 0 < P.wds.length ∧ P.wds.length ≤ 257) (w : World) (hP : PlS P w) : Calls Tryz.prog 106 #[.pointer (some ⟨P.B,0,none⟩),.int .i64 n] w fun e w' => e = .returned (.int .i64 (nuN P n)) ∧ w' = w := by
 have c1 := hP.c1
 have h1 : (1 : Int) ≤ P.wds.length := by omega
 have h2 : (P.wds.length : Int) ≤ 257 := by omega
 have hv1 : Hid ((P.wds.length : Int) - 1 < (n : Int) → (P.wds.length : Int) - 1 = (nuN P n : Nat)) := fun e => by unfold nuN; omega
 have hv2 : Hid (¬ (P.wds.length : Int) - 1 < (n : Int) → (n : Int) = (nuN P n : Nat)) := fun e => by unfold nuN; omega
 clear hP
 generalize nuN P n = R at *
 go_enter Tryz.func106,Tryz.ntmps106
 go_wp2_with fail
 all_goals (go_ret; first | exact ⟨by rw [← hv1.out (by omega)]; rfl,rfl⟩ | exact ⟨by rw [← hv2.out (by omega)]; rfl,rfl⟩)
def minG : List Wy → Wy → Wy
 | [],m => m
 | x :: r,m => minG r (if cmpW x m < 0 then x else m)
def minW (L : List Wy) : Wy := minG (L.drop 1) (L.getD 0 wy0)
end Go.Proofs.YtfiekhephkpdjaaGreatDoor

namespace Go.Proofs.YtfiekhephkpdjaaGreatDoor
open Go.RowKit Go.Shelf
set_option maxRecDepth 100000

def itC (x : It) : Array Value := #[.int .i64 x.k,.int .i64 x.f,.int .i64 x.t,.int .i64 x.w,.int .i64 x.s,.int .i64 x.h,.int .i64 x.c,.bool x.y]
theorem itC_one (x : It) : (itC x).all (·.oneCell') = true := by simp [itC,Value.oneCell']
theorem info51 (x : It) : (Tryz.prog.info? 68).map (·.size) = some (itC x).size := by show _ = some 8; kernel_rfl
theorem heap_new (w : World) (o : Obj) : (w.alloc o).heap[w.heap.size]? = some o := by show (w.heap.push o)[w.heap.size]? = _; simp
theorem below_row {n b : Nat} {w W : World} (h : Below n w W) (hn : n ≤ W.heap.size) (hb : n ≤ b) (cs : Array Value) : Below n w (W.setRow b cs) :=
 h.trans ((Turns.setRow (X := fun k => k = b) W rfl cs).below hn (fun k hk => by omega))
theorem results_cell_row2 {P : Program} {fn : Func} {p u : Tmp} {ty : TypeId} (h : fn.results = #[.cell p ty,.tmp u]) (tmps : Array Value) (w : World) (g : Nat) (t : TypeId) (cs : Array Value) (fr : Nat × Nat) (d : TypeDesc)
  (hp : tmps.getD p undef = .pointer (some ⟨g,0,none⟩)) (hg : w.heap[g]? = some (.cells cs t fr))
  (hu : P.underlying ty = some d) (hd : (match d with | .struct _ | .array _ _ => true | _ => false) = true) (hi : (P.info? ty).map (·.size) = some cs.size) :
  (results fn tmps).run P w = .ok (.tuple #[.agg cs,tmps.getD u undef]) w := by
 have hp' : tmps[p]?.getD undef = .pointer (some ⟨g,0,none⟩) := by simpa using hp
 rw [results_cell_tmp h]
 simp [hp',asAddr,run_loadVar_row w g t ty cs fr d hg hu hd hi,Result.andThen]
structure IX (W : World) (b : Nat) (x : It) : Prop where
 row : W.heap[b]? = some (.cells (itC x) 68 (0,0))
theorem IX.new (w : World) (x : It) : IX (w.alloc (.cells (itC x) 68)) w.heap.size x := ⟨heap_new w _⟩
theorem IX.lt {W : World} {b : Nat} {x : It} (h : IX W b x) : b < W.heap.size := (Array.getElem?_eq_some_iff.1 h.row).1
theorem IX.below {n : Nat} {W W' : World} {b : Nat} {x : It} (h : IX W b x) (hb : Below n W W') (hn : b < n) : IX W' b x := ⟨(hb.block b hn).trans h.row⟩
theorem IX.set {W : World} {b : Nat} {x : It} (h : IX W b x) (y : It) : IX (W.setRow b (itC y)) b y := ⟨setRow_heap _ _ _ _ 68 _ h.row⟩

theorem wrap_ok {x : Int} (h : -9223372036854775808 ≤ x) (h' : x ≤ 9223372036854775807) : IntKind.i64.wrap x = x := by
 rw [IntKind.wrap_i64]; omega

def dash : ByteArray := ⟨#[45]⟩
def hyW (s : Int) : Int := wVal dash s
theorem hyphenWidth_any (s : Int) (w : World) : Calls Tryz.prog 95 #[.int .i64 s] w fun e w' => e = .returned (.int .i64 (hyW s)) ∧ w' = w := by
 have h : Calls Tryz.prog 46 #[.string ⟨#[45]⟩,.int .i64 s] w fun e w' => e = .returned (.tuple #[.int .i64 (hyW s),.int .i64 (wErr dash s)]) ∧ w' = w := Width_any dash s w
 generalize hyW s = r at *
 generalize wErr dash s = q at *
 go_enter Tryz.func95,Tryz.ntmps95
 go_wp2_with (go_at_call 46; refine h.mono ?_; rintro e w' ⟨rfl,hww⟩; subst w')
 go_ret
 exact ⟨rfl,rfl⟩

def alB (m : Ms) : Bool := decide (m.k = 3 ∨ m.k = 4 ∨ m.k = 5)
def loneI (m : Ms) : It := if m.k = 3 then ⟨2,m.f,m.t,m.w,m.w / 2,m.w / 3,0,false⟩ else if m.k = 4 then ⟨4,m.f,m.t,0,0,0,0,false⟩ else if m.k = 5 then ⟨3,m.f,m.t,hyW m.s,0,0,50,true⟩ else it0
def msC (m : Ms) : Array Value := #[.int .i64 m.f,.int .i64 m.t,.int .i64 m.k,.int .i64 m.s,.int .i64 m.w,.int .i64 m.q]

theorem two_new (w : World) (o : Obj) (x : It) : ((w.alloc o).alloc (.cells (itC x) 68)).heap[w.heap.size + 1]? = some (.cells (itC x) 68 (0,0)) := by
 have := heap_new (w.alloc o) (.cells (itC x) 68)
 rwa [World.size_alloc] at this
theorem two_below (w : World) (o p : Obj) : Below w.heap.size w ((w.alloc o).alloc p) := by
 have h := (Below.refl w.heap.size w).alloc (Nat.le_refl _) o
 exact h.alloc h.size p

end Go.Proofs.YtfiekhephkpdjaaGreatDoor

namespace Go.Proofs.YtfiekhephkpdjaaGreatDoor
open Go.RowKit Go.Shelf
set_option maxRecDepth 100000
set_option maxHeartbeats 1000000

structure PlM (P : Pl) (f : Nat × Nat → Option Wy) (M : Nat) (W : World) : Prop where
 p : PlS P W
 m : MapW W P.mb f M
theorem PlM.below {P : Pl} {f : Nat × Nat → Option Wy} {M : Nat} {W W' : World} (h : PlM P f M W) (hb : Below W.heap.size W W') : PlM P f M W' := ⟨h.p.below hb,h.m.below hb h.m.lt⟩
theorem PlM.drew {P : Pl} {f : Nat × Nat → Option Wy} {M : Nat} {W : World} (h : PlM P f M W) : PlM P f M W.drew := ⟨h.p.drew,h.m.same rfl⟩
theorem set58_below {w wa : World} (hb : Below w.heap.size w wa) (x : Wy) : Below w.heap.size w (wa.setRow w.heap.size (wyL x).toArray) := hb.trans ((Turns.setRow (X := fun k => k = w.heap.size) _ rfl _).below hb.size (fun k hk => by omega))
def fr16 (v0 v1 v2 v3 v4 v5 v6 v7 v8 v9 xa xb xc xd xe xf xg xh xi xj xk xl xm xn xo xp xq xr xt xu xv xw xx xy xz xA xB xC xD xE xF xG xH xI : Value) : Act := { tmps := #[v0,v1,v2,v3,v4,v5,v6,v7,v8,v9,xa,xb,xc,xd,xe,xf,xg,xh,xi,xj,xk,xl,xm,xn,xo,xp,xq,xr,xt,xu,xv,xw,xx,xy,xz,xA,xB,xC,xD,xE,xF,xG,xH,xI],defers := [] }
def ops16_5_0 (ps : String) : Oper := ⟨some 17,.move (.tmp 0),190,ps,#[],none⟩
def ops16_5_1 (ps : String) : Oper := ⟨some 18,.nilCheck (.tmp 17),0,ps,#[⟨0,.data⟩],none⟩
def ops16_5_2 (ps : String) : Oper := ⟨some 19,.fieldAddr 139 (.tmp 18) 2,0,ps,#[⟨1,.data⟩],none⟩
def ops16_5_3 (ps : String) : Oper := ⟨some 20,.load 137 (.tmp 19),137,ps,#[⟨2,.data⟩],none⟩
def ops16_5_4 (ps : String) : Oper := ⟨some 21,.move (.tmp 0),190,ps,#[],none⟩
def ops16_5_5 (ps : String) : Oper := ⟨some 22,.nilCheck (.tmp 21),0,ps,#[⟨4,.data⟩],none⟩
def ops16_5_6 (ps : String) : Oper := ⟨some 23,.fieldAddr 139 (.tmp 22) 0,0,ps,#[⟨5,.data⟩],none⟩
def ops16_5_7 (ps : String) : Oper := ⟨some 24,.load 130 (.tmp 23),130,ps,#[⟨6,.data⟩],none⟩
def ops16_5_8 (ps : String) : Oper := ⟨some 25,.call ⟨.builtin .len,#[.tmp 24],#[130]⟩,3,ps,#[⟨7,.data⟩],none⟩
def ops16_5_9 (ps : String) : Oper := ⟨some 26,.binOp .sub 3 (.tmp 25) (.const (.int .i64 1)) 3,3,ps,#[⟨8,.data⟩],none⟩
def ops16_5_10 (ps : String) : Oper := ⟨some 27,.move (.tmp 5),3,ps,#[],none⟩
def ops16_5_11 (ps : String) : Oper := ⟨some 28,.build 192 #[(0,.tmp 26),(1,.tmp 27)],192,ps,#[⟨9,.data⟩,⟨10,.data⟩],none⟩
def ops16_5_12 (ps : String) : Oper := ⟨some 29,.lookup 137 (.tmp 20) (.tmp 28) true,142,ps,#[⟨3,.data⟩,⟨11,.data⟩],none⟩
def ops16_5_13 (ps : String) : Oper := ⟨some 16,.move (.tmp 29),142,ps,#[⟨12,.data⟩],none⟩
def ops16_5_14 (ps : String) : Oper := ⟨some 30,.extract (.tmp 16) 0,141,ps,#[⟨13,.data⟩],none⟩
def ops16_5_15 (ps : String) : Oper := ⟨some 31,.extract (.tmp 16) 1,4,ps,#[⟨13,.data⟩,⟨17,.gcOnly .lateStores⟩],none⟩
def ops16_5_16 (ps : String) : Oper := ⟨some 6,.alloc 141,0,ps,#[],none⟩
def ops16_5_17 (ps : String) : Oper := ⟨none,.store 141 (.tmp 6) (.tmp 30),0,ps,#[⟨16,.data⟩,⟨14,.data⟩,⟨0,.phase⟩,⟨1,.phase⟩,⟨2,.phase⟩,⟨3,.phase⟩,⟨4,.phase⟩,⟨5,.phase⟩,⟨6,.phase⟩,⟨7,.phase⟩,⟨8,.phase⟩,⟨9,.phase⟩,⟨10,.phase⟩,⟨11,.phase⟩,⟨12,.phase⟩,⟨13,.phase⟩,⟨14,.phase⟩,⟨15,.textOnly .lateStores⟩,⟨16,.phase⟩],none⟩
def ops16_5_18 (ps : String) : Oper := ⟨some 7,.assign (.tmp 31),4,ps,#[⟨15,.data⟩,⟨17,.chain⟩,⟨0,.phase⟩,⟨1,.phase⟩,⟨2,.phase⟩,⟨3,.phase⟩,⟨4,.phase⟩,⟨5,.phase⟩,⟨6,.phase⟩,⟨7,.phase⟩,⟨8,.phase⟩,⟨9,.phase⟩,⟨10,.phase⟩,⟨11,.phase⟩,⟨12,.phase⟩,⟨13,.phase⟩,⟨14,.phase⟩,⟨15,.phase⟩,⟨16,.phase⟩,⟨17,.phase⟩],none⟩
def ops16_5 (ps : String) : Array Oper := #[ops16_5_0 ps,ops16_5_1 ps,ops16_5_2 ps,ops16_5_3 ps,ops16_5_4 ps,ops16_5_5 ps,ops16_5_6 ps,ops16_5_7 ps,ops16_5_8 ps,ops16_5_9 ps,ops16_5_10 ps,ops16_5_11 ps,ops16_5_12 ps,ops16_5_13 ps,ops16_5_14 ps,ops16_5_15 ps,ops16_5_16 ps,ops16_5_17 ps,ops16_5_18 ps]

theorem en_r5 (Q : Exit → Act → World → Prop) (hQ : ∀ c x (n : Nat) v w,Q (.panic c) (x.put (some n) v) w → Q (.panic c) x w) (id : Nat) (ps : String) {v1 v2 v3 v4 v6 v7 v8 v9 xa xb xc xd xe xf xg xh xi xj xk xl xm xn xo xp xq xr xt xu xv xw xx xy xz xA xB xC xD xE xF xG xH xI : Value} (P : Pl) (f : Nat × Nat → Option Wy) (M m n : Nat) (w : World) (hS : PlM P f M (World.drew w))
  (hb : SpB (m,n)) (hm9 : (P.sts.length : Int) - 1 = (m : Nat)) (_hl1 : (1 : Int) ≤ P.sts.length) (hl2 : (P.sts.length : Int) ≤ 9000)
  (hq : ∀ w',Below w.heap.size w w' → w'.heap[w.heap.size]? = some (.cells (wyL ((f (m,n)).getD wy0)).toArray 141 (0,0)) → Q .normal (fr16 (.pointer (some ⟨P.B,0,none⟩)) v1 v2 v3 v4 (.int .i64 (n : Nat)) (.pointer (some ⟨w.heap.size,0,none⟩)) (.bool (f (m,n)).isSome) v8 v9 xa xb xc xd xe xf (.tuple #[wyV ((f (m,n)).getD wy0),.bool (f (m,n)).isSome]) (.pointer (some ⟨P.B,0,none⟩)) (.pointer (some ⟨P.B,0,none⟩)) (.pointer (some ⟨P.B,2,none⟩)) (.map (some P.mb)) (.pointer (some ⟨P.B,0,none⟩)) (.pointer (some ⟨P.B,0,none⟩)) (.pointer (some ⟨P.B,0,none⟩)) (.slice (some ⟨P.gs,P.os,none⟩) P.sts.length P.cs) (.int .i64 (P.sts.length : Nat)) (.int .i64 (m : Nat)) (.int .i64 (n : Nat)) (spV (m,n)) (.tuple #[wyV ((f (m,n)).getD wy0),.bool (f (m,n)).isSome]) (wyV ((f (m,n)).getD wy0)) (.bool (f (m,n)).isSome) xx xy xz xA xB xC xD xE xF xG xH xI) w') :
  (Code.region id (ops16_5 ps) true).wp Tryz.prog Q (fr16 (.pointer (some ⟨P.B,0,none⟩)) v1 v2 v3 v4 (.int .i64 (n : Nat)) v6 v7 v8 v9 xa xb xc xd xe xf xg xh xi xj xk xl xm xn xo xp xq xr xt xu xv xw xx xy xz xA xB xC xD xE xF xG xH xI) w := by
 refine wp_region_held (S := PlM P f M) (by kernel_rfl) ?_
 change wpAnyH _ _ _ _ _ 19 _ _ (World.drew w)
 refine take_r 0 ⟨some 17,.move (.tmp 0),190,ps,#[],none⟩ (.pointer (some ⟨P.B,0,none⟩)) hQ (fun w _ => by kernel_rfl) hS ?_
 refine take_r 1 ⟨some 18,.nilCheck (.tmp 17),0,ps,#[⟨0,.data⟩],none⟩ (.pointer (some ⟨P.B,0,none⟩)) hQ (fun w hS => by unfold fr16; go_simp) hS ?_
 refine take_r 2 ⟨some 19,.fieldAddr 139 (.tmp 18) 2,0,ps,#[⟨1,.data⟩],none⟩ (.pointer (some ⟨P.B,2,none⟩)) hQ (fun w hS => by unfold fr16; go_simp) hS ?_
 refine take_r 3 ⟨some 20,.load 137 (.tmp 19),137,ps,#[⟨2,.data⟩],none⟩ (.map (some P.mb)) hQ (fun w hS => by have e := hS.p.c2; unfold fr16; go_simp) hS ?_
 refine take_r 4 ⟨some 21,.move (.tmp 0),190,ps,#[],none⟩ (.pointer (some ⟨P.B,0,none⟩)) hQ (fun w _ => by kernel_rfl) hS ?_
 refine take_k 5 (ops16_5_5 ps) (.pointer (some ⟨P.B,0,none⟩)) (fr16 (.pointer (some ⟨P.B,0,none⟩)) v1 v2 v3 v4 (.int .i64 (n : Nat)) v6 v7 v8 v9 xa xb xc xd xe xf xg (.pointer (some ⟨P.B,0,none⟩)) (.pointer (some ⟨P.B,0,none⟩)) (.pointer (some ⟨P.B,2,none⟩)) (.map (some P.mb)) (.pointer (some ⟨P.B,0,none⟩)) (.pointer (some ⟨P.B,0,none⟩)) xn xo xp xq xr xt xu xv xw xx xy xz xA xB xC xD xE xF xG xH xI) hQ (fun w hS => by unfold fr16 ops16_5_5; go_simp) hS ?_
 refine take_r 6 ⟨some 23,.fieldAddr 139 (.tmp 22) 0,0,ps,#[⟨5,.data⟩],none⟩ (.pointer (some ⟨P.B,0,none⟩)) hQ (fun w hS => by unfold fr16; go_simp) hS ?_
 refine take_r 7 ⟨some 24,.load 130 (.tmp 23),130,ps,#[⟨6,.data⟩],none⟩ (.slice (some ⟨P.gs,P.os,none⟩) P.sts.length P.cs) hQ (fun w hS => by have e := hS.p.c0; unfold fr16; go_simp) hS ?_
 refine take_r 8 ⟨some 25,.call ⟨.builtin .len,#[.tmp 24],#[130]⟩,3,ps,#[⟨7,.data⟩],none⟩ (.int .i64 (P.sts.length : Nat)) hQ (fun w hS => by unfold fr16; go_simp) hS ?_
 refine take_r 9 ⟨some 26,.binOp .sub 3 (.tmp 25) (.const (.int .i64 1)) 3,3,ps,#[⟨8,.data⟩],none⟩ (.int .i64 (m : Nat)) hQ (fun w hS => by unfold fr16; go_simp; try exact wrap_i (by omega) (by omega)) hS ?_
 refine take_r 10 ⟨some 27,.move (.tmp 5),3,ps,#[],none⟩ (.int .i64 (n : Nat)) hQ (fun w _ => by kernel_rfl) hS ?_
 refine take_k 11 (ops16_5_11 ps) (spV (m,n)) (fr16 (.pointer (some ⟨P.B,0,none⟩)) v1 v2 v3 v4 (.int .i64 (n : Nat)) v6 v7 v8 v9 xa xb xc xd xe xf xg (.pointer (some ⟨P.B,0,none⟩)) (.pointer (some ⟨P.B,0,none⟩)) (.pointer (some ⟨P.B,2,none⟩)) (.map (some P.mb)) (.pointer (some ⟨P.B,0,none⟩)) (.pointer (some ⟨P.B,0,none⟩)) (.pointer (some ⟨P.B,0,none⟩)) (.slice (some ⟨P.gs,P.os,none⟩) P.sts.length P.cs) (.int .i64 (P.sts.length : Nat)) (.int .i64 (m : Nat)) (.int .i64 (n : Nat)) (spV (m,n)) xu xv xw xx xy xz xA xB xC xD xE xF xG xH xI) hQ (fun w hS => by unfold fr16 ops16_5_11; go_simp; try rfl) hS ?_
 refine take_r 12 ⟨some 29,.lookup 137 (.tmp 20) (.tmp 28) true,142,ps,#[⟨3,.data⟩,⟨11,.data⟩],none⟩ (.tuple #[wyV ((f (m,n)).getD wy0),.bool (f (m,n)).isSome]) hQ (fun w hS => by have hr := hS.m.look_ok (m,n) hb; unfold fr16; go_simp) hS ?_
 refine take_r 13 ⟨some 16,.move (.tmp 29),142,ps,#[⟨12,.data⟩],none⟩ (.tuple #[wyV ((f (m,n)).getD wy0),.bool (f (m,n)).isSome]) hQ (fun w _ => by kernel_rfl) hS ?_
 refine take_r 14 ⟨some 30,.extract (.tmp 16) 0,141,ps,#[⟨13,.data⟩],none⟩ (wyV ((f (m,n)).getD wy0)) hQ (fun w _ => by kernel_rfl) hS ?_
 refine take_r 15 ⟨some 31,.extract (.tmp 16) 1,4,ps,#[⟨13,.data⟩,⟨17,.gcOnly .lateStores⟩],none⟩ (.bool (f (m,n)).isSome) hQ (fun w _ => by kernel_rfl) hS ?_
 refine want_k 16 (ops16_5_16 ps) fun K hK => ?_
 unfold fr16 ops16_5_16
 go_simp
 have hb1 : Below w.heap.size w (World.drew (w.alloc (.cells #[.int .i64 0,.int .i64 0,.int .i64 0] 141))) := ((Below.refl w.heap.size w).alloc (Nat.le_refl _) _).drew
 have hT : (World.drew (w.alloc (.cells #[.int .i64 0,.int .i64 0,.int .i64 0] 141))).heap[w.heap.size]? = some (.cells (wyL wy0).toArray 141 (0,0)) := World.alloc_heap_new w _
 have hS1 : PlM P f M (World.drew (w.alloc (.cells #[.int .i64 0,.int .i64 0,.int .i64 0] 141))) := hS.below ⟨hb1.1,hb1.2,hb1.3,hb1.4,hb1.5⟩
 generalize World.drew (w.alloc (.cells #[.int .i64 0,.int .i64 0,.int .i64 0] 141)) = wa at *
 refine hK _ _ hS1 (cast_h (fr16 (.pointer (some ⟨P.B,0,none⟩)) v1 v2 v3 v4 (.int .i64 (n : Nat)) (.pointer (some ⟨w.heap.size,0,none⟩)) v7 v8 v9 xa xb xc xd xe xf (.tuple #[wyV ((f (m,n)).getD wy0),.bool (f (m,n)).isSome]) (.pointer (some ⟨P.B,0,none⟩)) (.pointer (some ⟨P.B,0,none⟩)) (.pointer (some ⟨P.B,2,none⟩)) (.map (some P.mb)) (.pointer (some ⟨P.B,0,none⟩)) (.pointer (some ⟨P.B,0,none⟩)) (.pointer (some ⟨P.B,0,none⟩)) (.slice (some ⟨P.gs,P.os,none⟩) P.sts.length P.cs) (.int .i64 (P.sts.length : Nat)) (.int .i64 (m : Nat)) (.int .i64 (n : Nat)) (spV (m,n)) (.tuple #[wyV ((f (m,n)).getD wy0),.bool (f (m,n)).isSome]) (wyV ((f (m,n)).getD wy0)) (.bool (f (m,n)).isSome) xx xy xz xA xB xC xD xE xF xG xH xI) (by kernel_rfl) ?_)
 clear hK K
 refine want_k 17 (ops16_5_17 ps) fun K hK => ?_
 refine wp_store_row 141 _ _ (by unfold ops16_5_17; rfl) w.heap.size (wyL ((f (m,n)).getD wy0)).toArray rfl rfl 141 _ hT (info58 _) rfl (wyL_all _) ?_
 have hb2 := set58_below hb1 ((f (m,n)).getD wy0)
 have hT2 : (wa.setRow w.heap.size (wyL ((f (m,n)).getD wy0)).toArray).heap[w.heap.size]? = some (.cells (wyL ((f (m,n)).getD wy0)).toArray 141 (0,0)) := setRow_heap _ _ _ _ _ _ hT
 have hS2 : PlM P f M (wa.setRow w.heap.size (wyL ((f (m,n)).getD wy0)).toArray) := hS.below ⟨hb2.1,hb2.2,hb2.3,hb2.4,hb2.5⟩
 refine hK _ _ hS2 (cast_h (fr16 (.pointer (some ⟨P.B,0,none⟩)) v1 v2 v3 v4 (.int .i64 (n : Nat)) (.pointer (some ⟨w.heap.size,0,none⟩)) v7 v8 v9 xa xb xc xd xe xf (.tuple #[wyV ((f (m,n)).getD wy0),.bool (f (m,n)).isSome]) (.pointer (some ⟨P.B,0,none⟩)) (.pointer (some ⟨P.B,0,none⟩)) (.pointer (some ⟨P.B,2,none⟩)) (.map (some P.mb)) (.pointer (some ⟨P.B,0,none⟩)) (.pointer (some ⟨P.B,0,none⟩)) (.pointer (some ⟨P.B,0,none⟩)) (.slice (some ⟨P.gs,P.os,none⟩) P.sts.length P.cs) (.int .i64 (P.sts.length : Nat)) (.int .i64 (m : Nat)) (.int .i64 (n : Nat)) (spV (m,n)) (.tuple #[wyV ((f (m,n)).getD wy0),.bool (f (m,n)).isSome]) (wyV ((f (m,n)).getD wy0)) (.bool (f (m,n)).isSome) xx xy xz xA xB xC xD xE xF xG xH xI) (by kernel_rfl) ?_)
 clear hK K
 refine take_r 18 ⟨some 7,.assign (.tmp 31),4,ps,#[⟨15,.data⟩,⟨17,.chain⟩,⟨0,.phase⟩,⟨1,.phase⟩,⟨2,.phase⟩,⟨3,.phase⟩,⟨4,.phase⟩,⟨5,.phase⟩,⟨6,.phase⟩,⟨7,.phase⟩,⟨8,.phase⟩,⟨9,.phase⟩,⟨10,.phase⟩,⟨11,.phase⟩,⟨12,.phase⟩,⟨13,.phase⟩,⟨14,.phase⟩,⟨15,.phase⟩,⟨16,.phase⟩,⟨17,.phase⟩],none⟩ (.bool (f (m,n)).isSome) hQ (fun w _ => by kernel_rfl) hS2 ?_
 exact wpAnyH_done (by kernel_rfl) (hq _ hb2 hT2) _

def enL (f : Nat × Nat → Option Wy) (m : Nat) : Nat → List Wy
 | 0 => []
 | n + 1 => match f (m,n) with
  | none => enL f m n
  | some x => enL f m n ++ [x]
def endO (P : Pl) (f : Nat × Nat → Option Wy) : Option Wy := if (enL f (P.sts.length - 1) P.wds.length).length = 0 then none else some (minW (enL f (P.sts.length - 1) P.wds.length))
end Go.Proofs.YtfiekhephkpdjaaGreatDoor

namespace Go.Proofs.YtfiekhephkpdjaaGreatDoor
open Go.RowKit Go.Shelf

def limI (P : Pl) (f : Nat × Nat → Option Wy) : Int := match endO P f with | none => 9223372036854775807 | some x => x.d - 100
end Go.Proofs.YtfiekhephkpdjaaGreatDoor
