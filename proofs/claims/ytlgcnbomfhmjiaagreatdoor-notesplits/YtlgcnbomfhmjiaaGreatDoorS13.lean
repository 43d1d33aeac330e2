/-
  What is proved here: what Give of item answers.
  What is proved here: records that fill a block (no function of the program is named).
  What is proved here: one record more behind a row of one's own; a field of a record in a block is written.
  What is proved here: what begin, upTo, legal, width, next of first answer.
  What is proved here: what legal, next and refuse of least and Leaps of item answer.
-/
import Derived.Test.YtlgcnbomfhmjiaaGreatDoorS3
import Derived.Test.YtlgcnbomfhmjiaaGreatDoorS4
import Derived.Test.YtlgcnbomfhmjiaaGreatDoorS8
import Derived.Test.YtlgcnbomfhmjiaaGreatDoorS1
import Derived.Deep.MidRow
import Derived.OrdersHeld
import Derived.Test.YtlgcnbomfhmjiaaGreatDoorRows
import Derived.BigQuiet
import Derived.Handy
namespace Go.Proofs.YtlgcnbomfhmjiaaGreatDoor
open Go.RowKit Go.Shelf
set_option maxRecDepth 100000
set_option maxHeartbeats 4000000
def suS (l : List It) (a : Nat) : Nat → Int
 | 0 => 0
 | k + 1 => suS l a k + (itAt l (a + k)).s
def suH (l : List It) (a : Nat) : Nat → Int
 | 0 => 0
 | k + 1 => suH l a k + (itAt l (a + k)).h
def giS (l : List It) (a b : Int) : Int := if rfL l a b = 0 then suS l a.toNat (shN l a.toNat (b.toNat - a.toNat)) else 0
def giH (l : List It) (a b : Int) : Int := if rfL l a b = 0 then suH l a.toNat (shN l a.toNat (b.toNat - a.toNat)) else 0
theorem su_rng {l : List It} (h : ckL l = 0) {a : Nat} : ∀ k,a + k ≤ l.length → (0 ≤ suS l a k ∧ suS l a k ≤ 4095 * (k : Int)) ∧ 0 ≤ suH l a k ∧ suH l a k ≤ 4095 * (k : Int)
 | 0,_ => by simp [suS,suH]
 | k + 1,hk => by
  have ih := su_rng h k (a := a) (by omega)
  have hi : a + k < l.length := by omega
  have := ck_at h hi
  unfold okP at this
  have e : suS l a (k + 1) = suS l a k + l[a + k].s := by show _ + (itAt l (a + k)).s = _; rw [itAt_is hi]
  have e' : suH l a (k + 1) = suH l a k + l[a + k].h := by show _ + (itAt l (a + k)).h = _; rw [itAt_is hi]
  rw [e,e']; omega
theorem give_any (v : Value) (l : List It) (x y : Int) (w : World) (hS : ItsAt w v l) :
  Calls Tryz.prog 57 #[v,.int .i64 x,.int .i64 y] w fun e w' => e = .returned (.tuple #[.int .i64 (giS l x y),.int .i64 (giH l x y),.int .i64 (rfL l x y)]) ∧ Below w.heap.size w w' := by
 have hc : Hid (Calls Tryz.prog 90 #[v,.int .i64 x,.int .i64 y] w fun e w' => e = .returned (.int .i64 (rfL l x y)) ∧ Below w.heap.size w w') := irefuse_any v l x y w hS
 obtain ⟨a,cap,rfl,-⟩ := hS.ex
 have hle := hS.le _ _ _ rfl
 have hSh : Hid (ItsAt w (.slice a l.length cap) l) := hS
 clear hS
 unfold giS giH
 by_cases h0 : rfL l x y = 0
 ·rw [h0] at hc
  rw [if_pos h0,if_pos h0,h0]
  obtain ⟨h1,h2,h3,h4⟩ := rf_ok h0
  obtain ⟨A,rfl⟩ : ∃ i : Nat,x = i := ⟨x.toNat,by omega⟩
  obtain ⟨E,rfl⟩ : ∃ i : Nat,y = i := ⟨y.toNat,by omega⟩
  rw [Int.toNat_natCast,Int.toNat_natCast]
  have h8 : (l.length : Int) ≤ 8192 := by have := ck_len h1; omega
  have hck : Hid (ckL l = 0) := h1
  have hAE : A ≤ E := by omega
  have hEl : E ≤ l.length := by omega
  clear h0 h1 h2 h3 h4
  obtain ⟨m,hm⟩ : ∃ m,shN l A (E - A) = m := ⟨_,rfl⟩
  have hmle : m ≤ E - A := by rw [← hm]; exact shN_le _ _ _
  have hsl : Hid (∀ W,Below w.heap.size w W → ∃ a',(Instr.slice 68 (.slice a l.length cap) (some (.int .i64 (A : Int))) (some (.int .i64 (E : Int))) none).run Tryz.prog W = .ok (.slice a' (E - A) (cap - A)) W ∧ Calls Tryz.prog 91 #[.slice a' (E - A) (cap - A)] W fun e w' => (∃ a2 cap2,e = .returned (.slice a2 m cap2) ∧ ItsAt W (.slice a2 m cap2) ((subL l A E).take m)) ∧ w' = W) := fun W hB => by
   obtain ⟨a',hr,ha'⟩ := slice29 a l.length cap A E W hAE (by omega)
   refine ⟨a',hr,?_⟩
   have hI := sub_its (hSh.out.below hB (Nat.le_refl _)) hAE hEl ha'
   have hc := shown_any _ (subL l A E) (by rw [sub_len hEl]; omega) W hI
   rw [sub_len hEl,shN_sub hEl _ (by omega),hm] at hc
   exact hc
  have hat : Hid (∀ W a2 cap2,ItsAt W (.slice a2 m cap2) ((subL l A E).take m) → ∀ i,i < m → ∃ b o,a2 = some ⟨b,o,none⟩ ∧ ∀ W',Below W.heap.size W W' → ItAt W b (o + i * 8) (itAt l (A + i)) W') := fun W a2 cap2 hI i hi => by
   obtain ⟨hlt,he⟩ := line_at hEl hAE (i := i) (by rw [hm]; exact hi)
   rw [hm] at he
   obtain ⟨hil,he'⟩ := List.getElem?_eq_some_iff.1 he
   obtain ⟨b,o,e,_,h⟩ := its_at hI hil
   rw [he'] at h
   refine ⟨b,o,e,fun W' hW => ?_⟩
   rw [itAt_is hlt]
   exact h W' hW
  have hrg : Hid (∀ k,k ≤ m → (0 ≤ suS l A k ∧ suS l A k ≤ 4095 * (k : Int)) ∧ 0 ≤ suH l A k ∧ suH l A k ≤ 4095 * (k : Int)) := fun k hk => su_rng hck.out k (by omega)
  have hgo : Hid (∀ k,k < m → okP (itAt l (A + k))) := fun k hk => by
   rw [itAt_is (show A + k < l.length by omega)]
   exact ck_at hck.out (by omega)
  rw [hm]
  clear hm hck hSh
  have hA' : (A : Int) ≤ E := by omega
  have hE' : (E : Int) ≤ cap := by omega
  go_enter Tryz.func57,Tryz.ntmps57
  go_wp2_with (first | (go_at_call 90; refine hc.out.mono ?_; rintro e w1 ⟨rfl,hb1⟩; obtain ⟨a1,hs1,hcs⟩ := hsl.out _ hb1) | (go_at_call 91; refine hcs.mono ?_; rintro e w' ⟨⟨a2,cap2,rfl,hI⟩,hww⟩; subst w'))
  have hat2 := hat.out _ _ _ hI
  have hat3 : Hid (∀ i,i < m → ∃ b o,a2 = some ⟨b,o,none⟩ ∧ ∀ W',Below w1.heap.size w1 W' → ItAt w1 b (o + i * 8) (itAt l (A + i)) W') := hat2
  clear hat hat2 hsl hc hcs hs1 hI
  go_loopw [10,11,27] (fun p q i wr => ∃ k : Nat,k ≤ m ∧ i = .int .i64 k ∧ p = .int .i64 (suS l A k) ∧ q = .int .i64 (suH l A k) ∧ Below w1.heap.size w1 wr) (fun _ _ i _ => m - (intOf i).toNat)
  case atStart => exact ⟨0,by omega,rfl,rfl,rfl,Below.refl _ _⟩
  case round =>
   obtain ⟨k,hk,rfl,rfl,rfl,hb2⟩ := hrel
   by_cases hlt : k < m
   ·have hlt' : (k : Int) < m := by omega
    obtain ⟨bb,oo,rfl,hit⟩ := hat3.out k hlt
    have hi := hit wr hb2
    have c0 := hi.c0
    have c1 := hi.c1
    have c2 := hi.c2
    have c3 := hi.c3
    have c4 := hi.c4
    have c5 := hi.c5
    have c6 := hi.c6
    have c7 := hi.c7
    have hok := hgo.out k hlt
    have hr1 := hrg.out k (by omega)
    have he : Hid (suS l A (k + 1) = suS l A k + (itAt l (A + k)).s ∧ suH l A (k + 1) = suH l A k + (itAt l (A + k)).h) := ⟨rfl,rfl⟩
    clear hit hi
    generalize itAt l (A + k) = it at *
    obtain ⟨k0,f0,t0,w0,s0,h0,q0,y0⟩ := it
    unfold okP at hok
    simp only at c0 c1 c2 c3 c4 c5 c6 c7 hok he
    have hs0 : 0 ≤ s0 ∧ s0 ≤ 4095 := hok.2.2.2.2.1
    have hh0 : 0 ≤ h0 ∧ h0 ≤ 4095 := hok.2.2.2.2.2.1
    obtain ⟨p,hp⟩ : ∃ p,suS l A k = p := ⟨_,rfl⟩
    obtain ⟨q,hq⟩ : ∃ p,suH l A k = p := ⟨_,rfl⟩
    have hp0 : 0 ≤ p := by omega
    have hp1 : p ≤ 50000000 := by omega
    have hq0 : 0 ≤ q := by omega
    have hq1 : q ≤ 50000000 := by omega
    rw [hp,hq] at he ⊢
    have hkk : Hid (k ≤ m) := hk
    clear hok hr1 hp hk hq
    have hB2 := hb2.alloc hb2.size (.cells #[.int .i64 k0,.int .i64 f0,.int .i64 t0,.int .i64 w0,.int .i64 s0,.int .i64 h0,.int .i64 q0,.bool y0] 91)
    go_wp2_with fail
    go_roundw
    case rel => exact ⟨k + 1,by omega,by simp,by rw [he.out.1],by rw [he.out.2],hB2⟩
    case measure => simp [intOf]; omega
   ·obtain rfl : k = m := by omega
    have hb3 : Below w.heap.size w wr := hb1.trans (hb2.mono hb1.size)
    have hge : ¬ (k : Int) < k := by omega
    clear hat3 hgo hrg
    go_wp2_with fail
    go_ret3
    exact ⟨rfl,hb3⟩
 ·rw [if_neg h0,if_neg h0]
  have h0' : (rfL l x y == 0) = false := by simpa using h0
  clear h0 hSh
  generalize rfL l x y = n at *
  go_enter Tryz.func57,Tryz.ntmps57
  go_wp2_with (go_at_call 90; refine hc.out.mono ?_; rintro e w' ⟨rfl,hb2⟩)
  go_ret3
  exact ⟨rfl,hb2⟩
end Go.Proofs.YtlgcnbomfhmjiaaGreatDoor

namespace Go.Proofs.YtlgcnbomfhmjiaaGreatDoor
open Go.RowKit Go.Shelf

structure RB {α : Type} (k : Nat) (f : α → List Value) (W : World) (g : Nat) (L : List α) : Prop where
 lt : g < W.heap.size
 all : ∀ i (hi : i < L.length) (j : Nat) v,(f L[i])[j]? = some v → W.cell? ⟨g,i * k + j,none⟩ = some v ∧ W.frozen? ⟨g,i * k + j,none⟩ = false
section
variable {α : Type} {k : Nat} {f : α → List Value} {W W' : World} {g : Nat} {L : List α}
theorem RB.recs (h : RB k f W g L) {n cap : Nat} (hn : n ≤ L.length) (hc : n ≤ cap) : RecAt k f W (.slice (some ⟨g,0,none⟩) n cap) (L.take n) := by
 refine ⟨⟨some ⟨g,0,none⟩,cap,by rw [List.length_take,Nat.min_eq_left hn],.inr ⟨g,0,rfl,h.lt,fun i hi j v hv => ?_⟩⟩,fun a n' c e => ?_⟩
 ·have hil : i < L.length := by rw [List.length_take] at hi; omega
  rw [List.getElem_take] at hv
  have := (h.all i hil j v hv).1
  rw [Nat.zero_add]
  exact this
 ·cases e
  exact hc
theorem RB.same (h : RB k f W g L) (hs : W.heap.size ≤ W'.heap.size) (hbk : W'.heap[g]? = W.heap[g]?) : RB k f W' g L := ⟨Nat.lt_of_lt_of_le h.lt hs,fun i hi j v hv => by
 have := h.all i hi j v hv
 have e1 : W'.cell? ⟨g,i * k + j,none⟩ = W.cell? ⟨g,i * k + j,none⟩ := by unfold World.cell?; rw [hbk]
 have e2 : W'.frozen? ⟨g,i * k + j,none⟩ = W.frozen? ⟨g,i * k + j,none⟩ := by unfold World.frozen?; rw [hbk]
 rw [e1,e2]; exact this⟩
theorem RB.below {n : Nat} (h : RB k f W g L) (hb : Below n W W') (hn : g < n) : RB k f W' g L := h.same hb.size (hb.block g hn)
theorem RB.turns {X : Nat → Prop} (h : RB k f W g L) (hb : Turns X W W') (hn : ¬ X g) : RB k f W' g L := h.same hb.size (hb.block g h.lt hn)
theorem turns_setCells {X : Nat → Prop} {g : Nat} (hg : X g) : ∀ (vs : List Value) (o : Nat) (W : World),Turns X W (W.setCells g o vs)
 | [],_,_W => Turns.refl _ _
 | v :: r,o,W => (Turns.setCell W (p := ⟨g,o,none⟩) hg v).trans (turns_setCells hg r (o + 1) _)
theorem RB.there (hf : ∀ a,(f a).length = k) (h : RB k f W g L) {p : Nat} (hp : p < L.length) : W.there g (p * k) k := fun j hj => by
 obtain ⟨v,hv⟩ : ∃ v,(f L[p])[j]? = some v := ⟨(f L[p])[j]'(by rw [hf]; exact hj),List.getElem?_eq_getElem _⟩
 have := h.all p hp j v hv
 exact ⟨by rw [this.1]; rfl,this.2⟩
theorem apart_mul {i p j k : Nat} (hj : j < k) (e : ¬ p = i) : i * k + j < p * k ∨ p * k + k ≤ i * k + j := by
 rcases Nat.lt_or_gt_of_ne e with h | h
 ·right
  have : (p + 1) * k ≤ i * k := Nat.mul_le_mul_right k h
  rw [Nat.succ_mul] at this
  omega
 ·left
  have : (i + 1) * k ≤ p * k := Nat.mul_le_mul_right k h
  rw [Nat.succ_mul] at this
  omega
theorem RB.set (hf : ∀ a,(f a).length = k) (h : RB k f W g L) {p : Nat} (hp : p < L.length) (x : α) : RB k f (W.setCells g (p * k) (f x)) g (L.set p x) := by
 refine ⟨Nat.lt_of_lt_of_le h.lt (turns_setCells (X := fun _ => True) trivial _ _ _).size,fun i hi j v hv => ?_⟩
 have hi' : i < L.length := by simpa using hi
 have hj : j < k := by have := (List.getElem?_eq_some_iff.1 hv).1; rw [hf] at this; exact this
 rw [World.frozen?_setCells]
 by_cases e : p = i
 ·subst e
  rw [List.getElem_set_self] at hv
  have := (World.rangeAt_setCells_same W g (p * k) (f x) (by rw [hf]; exact h.there hf hp)) j v hv
  refine ⟨this,?_⟩
  exact ((h.there hf hp) j hj).2
 ·rw [List.getElem_set_ne e] at hv
  have := h.all i hi' j v hv
  refine ⟨?_,this.2⟩
  rw [World.cell?_setCells_out g (f x) (p * k) W ⟨g,i * k + j,none⟩ (fun _ _ => by rw [hf]; exact apart_mul hj e)]
  exact this.1
theorem RB.of_row {t : TypeId} {cur : Array Value} (hg : W.heap[g]? = some (.cells cur t (0,0))) (hc : ∀ i (hi : i < L.length) (j : Nat) v,(f L[i])[j]? = some v → cur[i * k + j]? = some v) : RB k f W g L :=
 ⟨(Array.getElem?_eq_some_iff.1 hg).1,fun i hi j v hv => ⟨by rw [Lib.cell_of_heap hg]; exact hc i hi j v hv,Lib.frozen_of_heap hg _⟩⟩
theorem made_rec (hf : ∀ a,(f a).length = k) (hk : 0 < k) (z : α) (n : Nat) : madeCells (f z).toArray (n * k) = ((List.replicate n z).flatMap f).toArray := by
 apply Array.ext
 ·rw [size_madeCells]; simp only [List.size_toArray]; rw [fm_len hf,List.length_replicate]
 ·intro i h1 h2
  have hik : i < n * k := by simpa [madeCells] using h1
  have hdv : i / k < n := Nat.div_lt_of_lt_mul (by rw [Nat.mul_comm]; exact hik)
  have hmd : i % k < k := Nat.mod_lt _ hk
  have hi : i / k < (List.replicate n z).length := by simpa using hdv
  have hv := fm_get hf (List.replicate n z) hi (i % k) hmd
  rw [List.getElem_replicate,show i / k * k + i % k = i by rw [Nat.mul_comm]; exact Nat.div_add_mod i k] at hv
  have : ((List.replicate n z).flatMap f)[i]? = some (((List.replicate n z).flatMap f).toArray[i]'h2) := by simp
  rw [this] at hv
  have hm : (madeCells (f z).toArray (n * k))[i] = (f z).toArray[i % (f z).toArray.size]! := by simp [madeCells]
  have h8 : (f z).toArray.size = k := by simpa using hf z
  rw [hm,h8,getElem!_pos _ _ (by rw [h8]; exact hmd)]
  rw [List.getElem?_eq_getElem (by rw [hf]; exact hmd)] at hv
  rw [Option.some.inj hv]
  simp
end
end Go.Proofs.YtlgcnbomfhmjiaaGreatDoor

namespace Go.Proofs.YtlgcnbomfhmjiaaGreatDoor
open Go.RowKit Go.Shelf

def ElOk (t e : TypeId) (k bytes : Nat) : Prop := Tryz.prog.underlying t = some (.slice e) ∧ ∃ i z,Tryz.prog.info? e = some i ∧ i.zero = some z ∧ i.size = k ∧ i.bytes = bytes ∧ z.cells.size = k
theorem ElOk.of {t e : TypeId} {k bytes : Nat} (hu : Tryz.prog.underlying t = some (.slice e)) (h : (Tryz.prog.info? e).map (fun i => (i.zero.map (fun z => z.cells.size),i.size,i.bytes)) = some (some k,k,bytes)) : ElOk t e k bytes := by
 refine ⟨hu,?_⟩
 cases hi : Tryz.prog.info? e with
 | none => rw [hi] at h; cases h
 | some i =>
  rw [hi] at h
  simp only [Option.map_some,Option.some.injEq,Prod.mk.injEq] at h
  obtain ⟨h1,h2,h3⟩ := h
  cases hz : i.zero with
  | none => rw [hz] at h1; cases h1
  | some z => rw [hz] at h1; exact ⟨i,z,rfl,hz,h2,h3,by simpa using h1⟩
section
variable {α : Type} {k : Nat} {f : α → List Value}
theorem row_below {w w' : World} {base : Nat} {v : Value} (hg : w.grownBy w' v.ownBlock) (hv : ∀ g,v.ownBlock = some g → base ≤ g) (hb : base ≤ w.heap.size) : Below base w w' :=
 ⟨hg.os,hg.tape,hg.output,hg.size,fun j hj => hg.block j (Nat.lt_of_lt_of_le hj hb) (fun e => by have := hv j e.symm; omega)⟩
theorem rec_cells (_hf : ∀ a,(f a).length = k) (W : World) (e : TypeId) (p : α) : ∀ j u,(f p)[j]? = some u → (W.alloc (.cells (f p).toArray e)).cell? ((⟨W.heap.size,0,none⟩ : Addr).add j) = some u := fun j u hu => by
 rw [addr_add0,Lib.cell_of_heap (World.alloc_heap_new W _)]
 simpa using hu
theorem wp_app1 {oi : Oper} {a : Act} {w w0 : World} {K : Act → World → Prop} {Q : Exit → Act → World → Prop} {t e : TypeId} {bytes : Nat} (hE : ElOk t e k bytes) (hf : ∀ a,(f a).length = k) (hone : ∀ p,∀ u ∈ f p,u.oneCell' = true) (hk : 0 < k) (hby : bytes ≤ 1000)
  (x y : Operand) (ho : oi.op = Op.call { callee := Callee.builtin Builtin.append,args := #[x,y],argTypes := #[t,t] }) (base : Nat) (v : Value) (qs : List α) (p : α) (hx : a.eval x = v)
  (hown : w0.ownsRow base e k v qs.length (qs.flatMap f)) (hb : base ≤ w0.heap.size) (hn : qs.length ≤ 9000) (hy : a.eval y = .slice (some ⟨w0.heap.size,0,none⟩) 1 1) (hw : w = w0.alloc (.cells (f p).toArray e))
  (h : ∀ v' w',w'.ownsRow base e k v' (qs ++ [p]).length ((qs ++ [p]).flatMap f) → Below base w0 w' → K (a.put oi.dst v') w') : oi.wp Tryz.prog a w K Q := by
 subst hw
 obtain ⟨hu,i,z,hi,hz0,hz1,hz2,hz3⟩ := hE
 have hbb : (qs.length + 1) * bytes ≤ 140737488355328 := Nat.le_trans (Nat.mul_le_mul (show qs.length + 1 ≤ 9001 by omega) hby) (by decide)
 obtain ⟨v',w',hrun,r1,r2,_⟩ := run_append_where (P := Tryz.prog) (w0.alloc (.cells (f p).toArray e)) base t oi.type e i z k bytes hu hi hz0 hz1 hz2 hz3 hk v qs.length (qs.flatMap f) (hown.alloc _) ⟨w0.heap.size,0,none⟩ 1 1 (f p) (by rw [hf]; omega) (rec_cells hf w0 e p) (hone p) (by unfold maxLen; omega) hbb (by simp; omega)
 have e1 : [p].flatMap f = f p := by simp
 have hB : Below base w0 w' := ((Below.refl base w0).alloc hb _).trans (row_below r2 (fun g hg => (hown.lt g hg).1) (by simp; omega))
 have hK := h v' w' (by rw [List.length_append,List.flatMap_append,e1]; exact r1) hB
 unfold Oper.wp
 simp [execOp,ho,resolve,invoke,builtin,hx,hy,hrun,Result.andThen]
 exact hK
theorem wpList_app1 {ops : Array Oper} {rest : List Oper} {oi : Oper} {a : Act} {w w0 : World} {Q : Exit → Act → World → Prop} {t e : TypeId} {bytes : Nat} (hgd : oi.guard = none) (hE : ElOk t e k bytes) (hf : ∀ a,(f a).length = k) (hone : ∀ p,∀ u ∈ f p,u.oneCell' = true) (hk : 0 < k) (hby : bytes ≤ 1000)
  (x y : Operand) (ho : oi.op = Op.call { callee := Callee.builtin Builtin.append,args := #[x,y],argTypes := #[t,t] }) (base : Nat) (v : Value) (qs : List α) (p : α) (hx : a.eval x = v)
  (hown : w0.ownsRow base e k v qs.length (qs.flatMap f)) (hb : base ≤ w0.heap.size) (hn : qs.length ≤ 9000) (hy : a.eval y = .slice (some ⟨w0.heap.size,0,none⟩) 1 1) (hw : w = w0.alloc (.cells (f p).toArray e))
  (h : ∀ v' w',w'.ownsRow base e k v' (qs ++ [p]).length ((qs ++ [p]).flatMap f) → Below base w0 w' → wpList Tryz.prog ops Q rest (a.put oi.dst v') w') : wpList Tryz.prog ops Q (oi :: rest) a w :=
 wpList_plain hgd fun _ hK => wp_app1 hE hf hone hk hby x y ho base v qs p hx hown hb hn hy hw fun v' w' h1 h2 => hK _ _ (h v' w' h1 h2)
theorem row_rb (hf : ∀ a,(f a).length = k) {W : World} {base : Nat} {e : TypeId} {v : Value} {L : List α} (h : W.ownsRow base e k v L.length (L.flatMap f)) (hL : 0 < L.length) : ∃ g cap,v = .slice (some ⟨g,0,none⟩) L.length cap ∧ base ≤ g ∧ L.length ≤ cap ∧ RB k f W g L := by
 rcases h.2 with ⟨_,hn⟩ | ⟨g,cap,cur,rfl,hb,hg,hnc,_,hcs,htk⟩
 ·omega
 ·refine ⟨g,cap,rfl,hb,hnc,RB.of_row hg fun i hi j u hu => ?_⟩
  have hj : j < k := by have := (List.getElem?_eq_some_iff.1 hu).1; rw [hf] at this; exact this
  have h1 := fm_get hf L hi j hj
  rw [hu,← htk,List.getElem?_take] at h1
  split at h1
  ·simpa using h1
  ·cases h1
end
end Go.Proofs.YtlgcnbomfhmjiaaGreatDoor

namespace Go.Proofs.YtlgcnbomfhmjiaaGreatDoor
open Go.RowKit Go.Shelf

theorem sk_at {l : List It} : ∀ n i k,i ≤ k → k < l.length → k < i + n → (∀ j,i ≤ j → j < k → (itAt l j).k = 2) → (itAt l k).k ≠ 2 → skG l n i = k
 | 0,i,k,h1,_,h2,_,_ => by omega
 | n + 1, i, k, h1, hk, h2, h3, h4 => by
  by_cases e : i = k
  ·subst e
   exact skG_no (fun h => h4 h.2)
  ·rw [skG_go ⟨by omega,h3 i (Nat.le_refl _) (by omega)⟩]
   exact sk_at n (i + 1) k (by omega) hk (by omega) (fun j h5 h6 => h3 j (by omega) h6) h4
theorem sk_all {l : List It} : ∀ n i,i ≤ l.length → l.length ≤ i + n → (∀ j,i ≤ j → j < l.length → (itAt l j).k = 2) → skG l n i = l.length
 | 0,i,h1,h2,_ => by show i = _; omega
 | n + 1, i, h1, h2, h3 => by
  by_cases e : i = l.length
  ·rw [skG_no (by omega)]; exact e
  ·rw [skG_go ⟨by omega,h3 i (Nat.le_refl _) (by omega)⟩]
   exact sk_all n (i + 1) (by omega) (by omega) (fun j h5 h6 => h3 j (by omega) h6)

end Go.Proofs.YtlgcnbomfhmjiaaGreatDoor

namespace Go.Proofs.YtlgcnbomfhmjiaaGreatDoor
open Go.RowKit Go.Shelf
set_option maxRecDepth 100000
set_option maxHeartbeats 2000000

def lpB (l : List It) : Bool := l.any (fun x => x.k == 4)
theorem leaps1_any (x : It) (w : World) : Calls Tryz.prog 87 #[.agg (itL x).toArray] w fun e w' => e = .returned (.bool (x.k == 4)) ∧ Below w.heap.size w w' := by
 obtain ⟨k0,f0,t0,w0,s0,h0,q0,y0⟩ := x
 have hB := (Below.refl w.heap.size w).alloc (Nat.le_refl _) (.cells #[.int .i64 k0,.int .i64 f0,.int .i64 t0,.int .i64 w0,.int .i64 s0,.int .i64 h0,.int .i64 q0,.bool y0] 91)
 show Calls Tryz.prog 87 #[.agg #[.int .i64 k0,.int .i64 f0,.int .i64 t0,.int .i64 w0,.int .i64 s0,.int .i64 h0,.int .i64 q0,.bool y0]] w _
 go_enter Tryz.func87,Tryz.ntmps87
 go_wp2_with fail
 go_ret
 exact ⟨rfl,hB⟩
theorem any_no {l : List It} (h : ∀ i (hi : i < l.length),(l[i].k == 4) = false) : lpB l = false := by
 unfold lpB
 rw [List.any_eq_false]
 intro x hx
 obtain ⟨i,hi,rfl⟩ := List.getElem_of_mem hx
 rw [h i hi]; decide
theorem any_yes {l : List It} {i : Nat} (hi : i < l.length) (h : (l[i].k == 4) = true) : lpB l = true := List.any_eq_true.2 ⟨l[i],List.getElem_mem hi,h⟩

theorem lindex_any (v : Value) (l : List It) (hl : l.length ≤ 9223372036854775807) (w : World) (hS : ItsAt w v l) :
  Calls Tryz.prog 135 #[v,.func (.func 87) #[] #[]] w fun e w' => (∃ n : Int,e = .returned (.int .i64 n) ∧ decide (0 ≤ n) = lpB l) ∧ Below w.heap.size w w' := by
 obtain ⟨a,cap,rfl,-⟩ := hS.ex
 have hY : Hid (∀ k (hk : k < l.length),(l[k].k == 4) = true → decide ((0 : Int) ≤ (k : Nat)) = lpB l) := fun k hk e => by rw [any_yes hk e]; simp
 have hN : Hid ((∀ k (hk : k < l.length),(l[k].k == 4) = false) → decide ((0 : Int) ≤ -1) = lpB l) := fun h => by rw [any_no h]; simp
 have hSh : Hid (ItsAt w (.slice a l.length cap) l) := hS
 clear hS
 generalize lpB l = r at hY hN ⊢
 go_enter Tryz.func135,Tryz.ntmps135
 go_wp2_with fail
 go_loopw [8] (fun i wr => ∃ (k : Nat),k ≤ l.length ∧ i = .int .i64 k ∧ Below w.heap.size w wr ∧ Hid (∀ j (hj : j < l.length),j < k → (l[j].k == 4) = false)) (fun i _ => l.length - (intOf i).toNat)
 case atStart => exact ⟨0,by omega,rfl,Below.refl _ _,fun j _ hj => by omega⟩
 case round =>
  obtain ⟨k,hk,rfl,hb,hall⟩ := hrel
  by_cases hlt : k < l.length
  ·obtain ⟨b,o,rfl,hbl,hit⟩ := its_at hSh.out hlt
   have hi := hit wr hb
   have c0 := hi.c0
   have c1 := hi.c1
   have c2 := hi.c2
   have c3 := hi.c3
   have c4 := hi.c4
   have c5 := hi.c5
   have c6 := hi.c6
   have c7 := hi.c7
   have hlt' : (k : Int) < l.length := by omega
   have hm := leaps1_any l[k] wr
   have hyes : Hid ((l[k].k == 4) = true → decide ((0 : Int) ≤ (k : Nat)) = r) := hY.out k hlt
   have hno : Hid ((l[k].k == 4) = false → ∀ j (hj : j < l.length),j < k + 1 → (l[j].k == 4) = false) := fun hv j hj hjk => by
    by_cases h : j < k
    ·exact hall.out j hj h
    ·obtain rfl : j = k := by omega
     exact hv
   clear hY hN hall hit hSh hi
   generalize l[k] = it at *
   obtain ⟨k0,f0,t0,w0,s0,h0,q0,y0⟩ := it
   simp only at c0 c1 c2 c3 c4 c5 c6 c7 hm hyes hno
   have hm' : Hid (Calls Tryz.prog 87 #[.agg #[.int .i64 k0,.int .i64 f0,.int .i64 t0,.int .i64 w0,.int .i64 s0,.int .i64 h0,.int .i64 q0,.bool y0]] wr fun e w' => e = .returned (.bool (k0 == 4)) ∧ Below wr.heap.size wr w') := hm
   clear hm
   cases hv : (k0 == 4) with
   | true =>
    have hn := hyes.out hv
    rw [hv] at hm'
    clear hyes hno hv
    have hn' : Hid (decide ((0 : Int) ≤ (k : Nat)) = r) := hn
    clear hn
    go_wp2_with (go_at_call 87; refine hm'.out.mono ?_; rintro e w' ⟨rfl,hb2⟩)
    go_ret
    exact ⟨⟨_,rfl,hn'.out⟩,hb.trans (hb2.mono hb.size)⟩
   | false =>
    have hn : Hid (∀ j (hj : j < l.length),j < k + 1 → (l[j].k == 4) = false) := hno.out hv
    rw [hv] at hm'
    clear hyes hno hv
    go_wp2_with (go_at_call 87; refine hm'.out.mono ?_; rintro e w' ⟨rfl,hb2⟩)
    go_roundw
    case rel => exact ⟨k + 1,by omega,by simp,hb.trans (hb2.mono hb.size),hn⟩
    case measure => simp [intOf]; omega
  ·have hn := hN.out (fun j hj => hall.out j hj (by omega))
   have hn' : Hid (decide ((0 : Int) ≤ -1) = r) := hn
   have hge : ¬ (k : Int) < l.length := by omega
   clear hY hN hall hSh hn
   go_wp2_with fail
   go_ret
   exact ⟨⟨_,rfl,hn'.out⟩,hb⟩

theorem leaps_any (v : Value) (l : List It) (hl : l.length ≤ 9223372036854775807) (w : World) (hS : ItsAt w v l) :
  Calls Tryz.prog 54 #[v] w fun e w' => e = .returned (.bool (lpB l)) ∧ Below w.heap.size w w' := by
 have hi : Hid (Calls Tryz.prog 135 #[v,.func (.func 87) #[] #[]] w fun e w' => (∃ n : Int,e = .returned (.int .i64 n) ∧ decide (0 ≤ n) = lpB l) ∧ Below w.heap.size w w') := lindex_any v l hl w hS
 obtain ⟨a,cap,rfl,-⟩ := hS.ex
 clear hS
 have hcf : Hid (Calls Tryz.prog 86 #[.slice a l.length cap,.func (.func 87) #[] #[]] w fun e w' => e = .returned (.bool (lpB l)) ∧ Below w.heap.size w w') := by
  show Calls Tryz.prog 86 _ _ _
  generalize lpB l = r at *
  go_enter Tryz.func86,Tryz.ntmps86
  go_wp2_with (go_at_call 135; refine hi.out.mono ?_; rintro e w' ⟨⟨n,rfl,hn⟩,hb2⟩)
  go_ret
  exact ⟨by rw [← hn]; rfl,hb2⟩
 clear hi
 generalize lpB l = r at *
 go_enter Tryz.func54,Tryz.ntmps54
 go_wp2_with (go_at_call 86; refine hcf.out.mono ?_; rintro e w' ⟨rfl,hb2⟩)
 go_ret
 exact ⟨rfl,hb2⟩


end Go.Proofs.YtlgcnbomfhmjiaaGreatDoor
