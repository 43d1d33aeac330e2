/-
  What is proved here: one record more behind a row of one's own, and what else turns.
  What is proved here: where the Penalties of a paragraph stand, as penalties of set tells it.
  What is proved here: where slices.BinarySearch finds a number among numbers that rise.
  What is proved here: the four ways to align; a drop capital, how wide it is, its glyph; how wide a hyphen is.
  What is proved here: the drawn regions of natural.
-/
import Derived.Test.YtbdpghjegachaaaGreatDoorE6
import Derived.Test.YtbdpghjegachaaaGreatDoorE3
import Derived.Test.YtbdpghjegachaaaGreatDoorE1
import Derived.Test.YtbdpghjegachaaaGreatDoorE22
import Derived.Test.YtbdpghjegachaaaGreatDoorE23
import Derived.Test.YtbdpghjegachaaaGreatDoorE2
namespace Go.Proofs.YtbdpghjegachaaaGreatDoor
open Go.RowKit Go.Shelf

def ElOk (t e : TypeId) (k bytes : Nat) : Prop := Tryz.prog.underlying t = some (.slice e) ∧ ∃ i z,Tryz.prog.info? e = some i ∧ i.zero = some z ∧ i.size = k ∧ i.bytes = bytes ∧ z.cells.size = k
theorem ElOk.of {t e : TypeId} {k bytes : Nat} (hu : Tryz.prog.underlying t = some (.slice e)) (h : (Tryz.prog.info? e).map (fun i => (i.zero.map (fun z => z.cells.size),i.size,i.bytes)) = some (some k,k,bytes)) : ElOk t e k bytes := by
 refine ⟨hu,?_⟩
 cases hi : Tryz.prog.info? e with
 | none => rw [hi] at h; cases h
 | some i =>
  rw [hi] at h
  simp only [Option.map_some,Option.some.injEq,Prod.mk.injEq] at h
  obtain ⟨h1,h2,h3⟩ := h
  cases hz : i.zero with
  | none => rw [hz] at h1; cases h1
  | some z => rw [hz] at h1; exact ⟨i,z,rfl,hz,h2,h3,by simpa using h1⟩
section
variable {α : Type} {k : Nat} {f : α → List Value}
theorem rec_cells (_hf : ∀ a,(f a).length = k) (W : World) (e : TypeId) (p : α) : ∀ j u,(f p)[j]? = some u → (W.alloc (.cells (f p).toArray e)).cell? ((⟨W.heap.size,0,none⟩ : Addr).add j) = some u := fun j u hu => by
 rw [addr_add0,Lib.cell_of_heap (World.alloc_heap_new W _)]
 simpa using hu
theorem wp_app2 {oi : Oper} {a : Act} {w w0 : World} {K : Act → World → Prop} {Q : Exit → Act → World → Prop} {t e : TypeId} {bytes : Nat} (hE : ElOk t e k bytes) (hf : ∀ a,(f a).length = k) (hone : ∀ p,∀ u ∈ f p,u.oneCell' = true) (hk : 0 < k) (hby : bytes ≤ 1000)
  (x y : Operand) (ho : oi.op = Op.call { callee := Callee.builtin Builtin.append,args := #[x,y],argTypes := #[t,t] }) (base : Nat) (v : Value) (qs : List α) (p : α) (hx : a.eval x = v)
  (hown : w0.ownsRow base e k v qs.length (qs.flatMap f)) (hb : base ≤ w0.heap.size) (hn : qs.length ≤ 9000) (hy : a.eval y = .slice (some ⟨w0.heap.size,0,none⟩) 1 1) (hw : w = w0.alloc (.cells (f p).toArray e))
  (h : ∀ v' w',w'.ownsRow base e k v' (qs ++ [p]).length ((qs ++ [p]).flatMap f) → Turns (fun g => v.ownBlock = some g) w0 w' → (v'.ownBlock = v.ownBlock ∨ ∀ g,v'.ownBlock = some g → w0.heap.size ≤ g) → K (a.put oi.dst v') w') : oi.wp Tryz.prog a w K Q := by
 subst hw
 obtain ⟨hu,i,z,hi,hz0,hz1,hz2,hz3⟩ := hE
 have hbb : (qs.length + 1) * bytes ≤ 140737488355328 := Nat.le_trans (Nat.mul_le_mul (show qs.length + 1 ≤ 9001 by omega) hby) (by decide)
 obtain ⟨v',w',hrun,r1,r2,r3⟩ := run_append_where (P := Tryz.prog) (w0.alloc (.cells (f p).toArray e)) base t oi.type e i z k bytes hu hi hz0 hz1 hz2 hz3 hk v qs.length (qs.flatMap f) (hown.alloc _) ⟨w0.heap.size,0,none⟩ 1 1 (f p) (by rw [hf]; omega) (rec_cells hf w0 e p) (hone p) (by unfold maxLen; omega) hbb (by simp; omega)
 have e1 : [p].flatMap f = f p := by simp
 have hT : Turns (fun g => v.ownBlock = some g) w0 w' := (Turns.alloc _ w0 _).trans ⟨r2.os,r2.tape,r2.output,r2.size,fun j hj hX => r2.block j hj (fun e => hX e.symm)⟩
 have hK := h v' w' (by rw [List.length_append,List.flatMap_append,e1]; exact r1) hT (r3.imp id fun h g hg => by have := h g hg; simp at this; omega)
 unfold Oper.wp
 simp [execOp,ho,resolve,invoke,builtin,hx,hy,hrun,Result.andThen]
 exact hK
theorem wpList_app2 {ops : Array Oper} {rest : List Oper} {oi : Oper} {a : Act} {w w0 : World} {Q : Exit → Act → World → Prop} {t e : TypeId} {bytes : Nat} (hgd : oi.guard = none) (hE : ElOk t e k bytes) (hf : ∀ a,(f a).length = k) (hone : ∀ p,∀ u ∈ f p,u.oneCell' = true) (hk : 0 < k) (hby : bytes ≤ 1000)
  (x y : Operand) (ho : oi.op = Op.call { callee := Callee.builtin Builtin.append,args := #[x,y],argTypes := #[t,t] }) (base : Nat) (v : Value) (qs : List α) (p : α) (hx : a.eval x = v)
  (hown : w0.ownsRow base e k v qs.length (qs.flatMap f)) (hb : base ≤ w0.heap.size) (hn : qs.length ≤ 9000) (hy : a.eval y = .slice (some ⟨w0.heap.size,0,none⟩) 1 1) (hw : w = w0.alloc (.cells (f p).toArray e))
  (h : ∀ v' w',w'.ownsRow base e k v' (qs ++ [p]).length ((qs ++ [p]).flatMap f) → Turns (fun g => v.ownBlock = some g) w0 w' → (v'.ownBlock = v.ownBlock ∨ ∀ g,v'.ownBlock = some g → w0.heap.size ≤ g) → wpList Tryz.prog ops Q rest (a.put oi.dst v') w') : wpList Tryz.prog ops Q (oi :: rest) a w :=
 wpList_plain hgd fun _ hK => wp_app2 hE hf hone hk hby x y ho base v qs p hx hown hb hn hy hw fun v' w' h1 h2 h3 => hK _ _ (h v' w' h1 h2 h3)
theorem row_slice (_hf : ∀ a,(f a).length = k) {W : World} {base : Nat} {e : TypeId} {v : Value} {L : List α} (h : W.ownsRow base e k v L.length (L.flatMap f)) : ∃ b cap,v = .slice b L.length cap ∧ L.length ≤ cap := by
 rcases h.2 with ⟨rfl,hn⟩ | ⟨g,cap,cur,rfl,hb,hg,hnc,_,hcs,htk⟩
 ·exact ⟨none,0,by rw [hn],by omega⟩
 ·exact ⟨_,cap,rfl,hnc⟩
end
end Go.Proofs.YtbdpghjegachaaaGreatDoor

namespace Go.Proofs.YtbdpghjegachaaaGreatDoor
open Go.RowKit Go.Shelf
set_option maxRecDepth 100000
set_option maxHeartbeats 2000000

def nmL (x : Int) : List Value := [.int .i64 x]
theorem nmL_len (x : Int) : (nmL x).length = 1 := rfl
theorem nmL_one (x : Int) : ∀ u ∈ nmL x,u.oneCell' = true := by intro u hu; simp [nmL] at hu; subst hu; rfl
theorem el44 : ElOk 44 3 1 8 := ElOk.of Tryz.underlying44 (by kernel_rfl)
theorem pnF_take {L : List It} {k : Nat} (hk : k < L.length) : pnF (L.take (k + 1)) = pnF (L.take k) ++ (if L[k].k = 3 then [L[k].f] else []) := by
 rw [List.take_succ_eq_append_getElem hk,pnF_app]
 congr 1
 unfold pnF
 by_cases h : L[k].k = 3
 ·rw [if_pos h,List.filter_cons_of_pos (by simpa using h)]; rfl
 ·rw [if_neg h,List.filter_cons_of_neg (by simpa using h)]; rfl
theorem pnF_len (L : List It) : (pnF L).length ≤ L.length := by
 unfold pnF
 rw [List.length_map]
 exact List.length_filter_le _ _
structure PnI (w : World) (v : Value) (qs : List Int) (W : World) : Prop where
 low : Below w.heap.size w W
 row : W.ownsRow w.heap.size 3 1 v qs.length (qs.flatMap nmL)
theorem penalties_any (a : Pa) (hck : chkI a = 0) (w : World) (hA : PaAt w a) (htb : Hy.Tab w) : Calls Tryz.prog 57 #[.agg (paC a)] w fun e w' => ∃ v base,e = .returned v ∧ w.heap.size ≤ base ∧ w'.ownsRow base 3 1 v (pnA a).length ((pnA a).flatMap nmL) ∧ Below w.heap.size w w' := by
 have hB := (Below.refl w.heap.size w).alloc (Nat.le_refl _) (Obj.cells (paC a) 27)
 have hP := PB.new w a
 have hG := good_of hck
 have hlen : (itemsOf a).length ≤ 8193 := its_len9 _ _ _ (bodyL_few hG)
 have hit := items_all a _ (hA.below hB (Nat.le_refl _)) (htb.below hB)
 unfold ItemsEnd at hit
 rw [hck] at hit
 unfold paV at hit
 unfold pnA
 clear hA htb hG
 generalize itemsOf a = L at *
 generalize hw1 : w.alloc (.cells (paC a) 27) = w1 at *
 go_enter Tryz.func57,Tryz.ntmps57
 go_wp2_with (refine wpList_load_row rfl 27 _ rfl w.heap.size rfl 27 _ (0,0) _ hP.row Tryz.underlying27 rfl (info34 a) ?_)
 refine hit.mono ?_
 rintro e W ⟨⟨v,rfl,hv⟩,hbW⟩
 have hrow : W.ownsRow w1.heap.size 129 8 v L.length (L.flatMap itL) := by
  rcases hv with ⟨h,_⟩ | ⟨_,h,_⟩
  ·exact absurd rfl h
  ·exact h
 have hrec := rec_of_row itL_len rfl hrow
 obtain ⟨va,vc,rfl,hvl⟩ := hrec.ex
 have hvc := hrec.le _ _ _ rfl
 have hBW := hB.trans (hbW.mono hB.size)
 have hcl : Hid (∀ W',Below W.heap.size W W' → ∀ i (h : i < L.length),∃ b o,va = some ⟨b,o,none⟩ ∧ ∀ j u,(itL L[i])[j]? = some u → W'.cell? ⟨b,o + i * 8 + j,none⟩ = some u) := fun W' hb i h => by
  rcases hvl with e | ⟨b,o,e,hbb,hc⟩
  ·rw [e] at h; simp at h
  ·exact ⟨b,o,e,fun j u hu => (hb.cell hbb).trans (hc i h j u hu)⟩
 have hl' : (L.length : Int) ≤ 8193 := by omega
 have hI0 : Hid (PnI W (.slice none 0 0) (pnF (L.take 0)) W) := ⟨Below.refl _ _,World.ownsRow_nil _ _ _ _⟩
 clear hv hrow hrec hvl hit hP hB hbW hw1
 go_wp2_with fail
 go_loopw [5,15] (fun v i wr => ∃ k : Nat,k ≤ L.length ∧ i = .int .i64 k ∧ Hid (PnI W v (pnF (L.take k)) wr)) (fun _ i _ => L.length - (intOf i).toNat)
 case atStart => exact ⟨0,by omega,rfl,hI0⟩
 case round =>
  obtain ⟨k,hk,rfl,hI⟩ := hrel
  by_cases hlt : k < L.length
  ·have hlt' : (k : Int) < (L.length : Nat) := by omega
   obtain ⟨b,o,rfl,hc⟩ := hcl.out wr hI.out.low k hlt
   have n0 := hc 0 _ rfl
   have n1 := hc 1 _ rfl
   have n2 := hc 2 _ rfl
   have n3 := hc 3 _ rfl
   have n4 := hc 4 _ rfl
   have n5 := hc 5 _ rfl
   have n6 := hc 6 _ rfl
   have n7 := hc 7 _ rfl
   rw [Nat.add_zero] at n0
   obtain ⟨vaa,vcc,rfl,_⟩ := row_slice nmL_len hI.out.row
   have hq9 : (pnF (L.take k)).length ≤ 9000 := by have := pnF_len (L.take k); rw [List.length_take] at this; omega
   have htk : Hid (pnF (L.take (k + 1)) = pnF (L.take k) ++ (if L[k].k = 3 then [L[k].f] else [])) := pnF_take hlt
   clear hc hcl
   generalize hLk : L[k] = it at *
   replace hLk : Hid (L[k] = it) := hLk
   obtain ⟨x0,x1,x2,x3,x4,x5,x6,x7⟩ := it
   have hI1 : Hid (PnI W (.slice vaa (pnF (L.take k)).length vcc) (pnF (L.take k)) (wr.alloc (.cells #[.int .i64 x0,.int .i64 x1,.int .i64 x2,.int .i64 x3,.int .i64 x4,.int .i64 x5,.int .i64 x6,.bool x7] 129))) := ⟨hI.out.low.alloc hI.out.low.size _,hI.out.row.alloc _⟩
   by_cases h3 : x0 = 3
   ·have h3' : (x0 == 3) = true := by simpa using h3
    have hnx : Hid (pnF (L.take (k + 1)) = pnF (L.take k) ++ [x1]) := by
     have := htk.out
     rw [if_pos (show x0 = 3 from h3)] at this
     exact this
    clear htk hI h3
    generalize hpk : pnF (L.take k) = qs at *
    replace hpk : Hid (pnF (L.take k) = qs) := hpk
    generalize hpk1 : pnF (L.take (k + 1)) = qs1 at *
    replace hpk1 : Hid (pnF (L.take (k + 1)) = qs1) := hpk1
    go_wp2_with (refine wpList_app2 (k := 1) (f := nmL) (w0 := wr.alloc (.cells #[.int .i64 x0,.int .i64 x1,.int .i64 x2,.int .i64 x3,.int .i64 x4,.int .i64 x5,.int .i64 x6,.bool x7] 129)) (bytes := 8) rfl el44 nmL_len nmL_one (by omega) (by omega) _ _ rfl W.heap.size (.slice vaa qs.length vcc) qs x1 rfl hI1.out.row hI1.out.low.size hq9 (by simp; rfl) rfl ?_; intro v' w6 hr6 hT6 hw6; have hI6 : Hid (PnI W v' qs1 w6) := ⟨hI1.out.low.trans (hT6.below hI1.out.low.size (fun c hc => (hI1.out.row.lt c hc).1)),by rw [hnx.out]; exact hr6⟩; clear hr6 hw6 hT6)
    exact ⟨⟨k + 1,by omega,by simp,by rw [hpk1.out]; exact hI6⟩,by simp [intOf]; omega⟩
   ·have h3' : (x0 == 3) = false := by simpa using h3
    have hI2 : Hid (PnI W (.slice vaa (pnF (L.take k)).length vcc) (pnF (L.take (k + 1))) (wr.alloc (.cells #[.int .i64 x0,.int .i64 x1,.int .i64 x2,.int .i64 x3,.int .i64 x4,.int .i64 x5,.int .i64 x6,.bool x7] 129))) := by
     have := htk.out
     rw [if_neg (show ¬ x0 = 3 from h3),List.append_nil] at this
     rw [this]
     exact hI1.out
    clear htk hI h3 hI1
    generalize (pnF (L.take k)).length = ln at *
    go_wp2_with fail
    exact ⟨⟨k + 1,by omega,by simp,hI2⟩,by simp [intOf]; omega⟩
  ·obtain rfl : k = L.length := by omega
   have hlt' : ¬ (L.length : Int) < (L.length : Nat) := by omega
   rw [List.take_length] at hI
   go_wp2_with fail
   go_ret
   exact ⟨_,rfl,W.heap.size,hBW.size,hI.out.row,hBW.trans (hI.out.low.mono hBW.size)⟩
end Go.Proofs.YtbdpghjegachaaaGreatDoor

namespace Go.Proofs.YtbdpghjegachaaaGreatDoor
open Go.RowKit Go.Shelf
set_option maxRecDepth 100000
set_option maxHeartbeats 2000000

theorem less_any (x y : Int) (w : World) : Calls Tryz.prog 100 #[.int .i64 x,.int .i64 y] w fun e w' => e = .returned (.bool (decide (x < y))) ∧ w' = w := by
 have hn := isNaN_any
 go_enter Tryz.func100,Tryz.ntmps100
 go_wp2_with (go_at_call 97; refine (hn _ _).mono ?_; rintro e w' ⟨rfl,rfl⟩)
 go_ret
 exact ⟨rfl,rfl⟩
theorem isNaN101 (n : Int) (w : World) : Calls Tryz.prog 101 #[.int .i64 n] w fun e w' => e = .returned (.bool false) ∧ w' = w := by
 go_enter Tryz.func101,Tryz.ntmps101
 go_wp2
 go_ret
 exact ⟨rfl,rfl⟩
theorem isearch_any (w : World) (g o n cap : Nat) (F : Nat → Int) (t : Int) (hr : ∀ j i,j < n → i < j → F i < F j) (hn : n ≤ 9000) (_hcap : n ≤ cap) (a : Option Addr) (ha : 0 < n → a = some ⟨g,o,none⟩) (hR : ∀ i,i < n → w.cell? ⟨g,o + i,none⟩ = some (.int .i64 (F i))) :
  Calls Tryz.prog 58 #[.slice a n cap,.int .i64 t] w fun e w' => e = .returned (.tuple #[.int .i64 (lowN F t n : Nat),.bool (fndB F t n)]) ∧ w' = w := by
 have hn' : (n : Int) ≤ 9000 := by omega
 have hr' : Hid (∀ j i,j < n → i < j → F i < F j) := hr
 have hcl : Hid (∀ i,i < n → w.cell? ⟨g,o + i,none⟩ = some (.int .i64 (F i))) := hR
 have hle := fun x W => less_any x t W
 have hna := fun x W => isNaN101 x W
 have hend : Hid (∀ p,p ≤ n → (∀ j,j < p → F j < t) → (∀ j,p ≤ j → j < n → t ≤ F j) → lowN F t n = p ∧ fndB F t n = (decide (p < n) && (F p == t))) := fun p hp h1 h2 => by
  have e := lowN_is (F := F) hp h1 h2
  unfold fndB
  rw [e]
  exact ⟨rfl,rfl⟩
 clear hr hR
 generalize lowN F t n = lo at *
 generalize fndB F t n = fb at *
 go_enter Tryz.func58,Tryz.ntmps58
 go_wp2_with fail
 go_loopw [7,8] (fun i j wr => ∃ (p q : Nat),p ≤ q ∧ q ≤ n ∧ i = .int .i64 p ∧ j = .int .i64 q ∧ wr = w ∧ Hid (∀ j,j < p → F j < t) ∧ Hid (∀ j,q ≤ j → j < n → t ≤ F j)) (fun i j _ => (intOf j).toNat - (intOf i).toNat)
 case atStart => exact ⟨0,n,by omega,by omega,rfl,rfl,rfl,fun j hj => by omega,fun j hj h => by omega⟩
 case round =>
  obtain ⟨p,q,hpq,hq,rfl,rfl,hwr,hlo,hhi⟩ := hrel
  subst wr
  by_cases hlt : p < q
  ·obtain rfl := ha (by omega)
   have hlt' : (p : Int) < q := by omega
   obtain ⟨m,hm,hm1,hm2⟩ : ∃ m : Nat,((p : Int) + q) / 2 = m ∧ p ≤ m ∧ m < q := ⟨(p + q) / 2,by omega,by omega,by omega⟩
   have hml : m < n := by omega
   have hml' : (m : Int) < n := by omega
   have m0 := hcl.out m hml
   have hcall := hle (F m) w
   by_cases hx : F m < t
   ·have hlo' : Hid (∀ j,j < m + 1 → F j < t) := fun j hjm => by
     by_cases e : j = m
     ·subst e; exact hx
     ·exact Int.lt_trans (hr'.out m j hml (by omega)) hx
    rw [decide_eq_true hx] at hcall
    clear hx hlo hr' hcl hle
    generalize F m = fm at *
    go_wp2_with (go_at_call 100; refine hcall.mono ?_; rintro e w' ⟨rfl,rfl⟩)
    exact ⟨⟨m + 1,q,by omega,by omega,by simp,rfl,trivial,hlo',hhi⟩,by simp [intOf]; omega⟩
   ·have hhi' : Hid (∀ j,m ≤ j → j < n → t ≤ F j) := fun j hjm hj => by
     by_cases e : j = m
     ·subst e; omega
     ·have := hr'.out j m hj (by omega); omega
    rw [decide_eq_false hx] at hcall
    clear hx hhi hr' hcl hle
    generalize F m = fm at *
    go_wp2_with (go_at_call 100; refine hcall.mono ?_; rintro e w' ⟨rfl,rfl⟩)
    exact ⟨⟨p,m,by omega,by omega,rfl,rfl,trivial,hlo,hhi'⟩,by simp [intOf]; omega⟩
  ·have hge : ¬ (p : Int) < q := by omega
   obtain ⟨e1,e2⟩ := hend.out p (by omega) hlo.out (fun j hj h => hhi.out j (by omega) h)
   replace e1 := e1.symm
   subst e1
   by_cases hpl : p < n
   ·obtain rfl := ha (by omega)
    have hpl' : (p : Int) < n := by omega
    have m0 := hcl.out p hpl
    have hna1 := hna (F p) w
    have e3 : fb = (F p == t) := by rw [e2]; simp [hpl]
    clear hr' hcl e2 hle hlo hhi hend hna
    generalize F p = fp at *
    by_cases he : fp = t
    ·have he' : (fp == t) = true := by simpa using he
     rw [he'] at e3
     subst e3
     clear he
     go_wp2_with (go_at_call 101; refine hna1.mono ?_; rintro e w' ⟨rfl,rfl⟩)
     go_ret2
     exact ⟨rfl,rfl⟩
    ·have he' : (fp == t) = false := by simpa using he
     rw [he'] at e3
     subst e3
     go_wp2_with (go_at_call 101; refine hna1.mono ?_; rintro e w' ⟨rfl,rfl⟩)
     go_ret2
     exact ⟨rfl,rfl⟩
   ·have hpl' : ¬ (p : Int) < n := by omega
    have e3 : fb = false := by rw [e2]; simp [hpl]
    subst e3
    clear hr' hcl e2 hlo hhi hend hle hna
    go_wp2_with fail
    go_ret2
    exact ⟨rfl,rfl⟩
end Go.Proofs.YtbdpghjegachaaaGreatDoor

namespace Go.Proofs.YtbdpghjegachaaaGreatDoor
open Go.RowKit Go.Shelf
set_option maxRecDepth 100000
set_option maxHeartbeats 2000000

def alC : Array Value := #[.func (.func 63) #[] #[],.func (.func 64) #[] #[],.func (.func 65) #[] #[],.func (.func 66) #[] #[]]
theorem alignments_any (w : World) : Calls Tryz.prog 31 #[] w fun e w' => e = .returned (.agg alC) ∧ Below w.heap.size w w' := by
 have hz : (w.alloc (.cells #[.nilFunc,.nilFunc,.nilFunc,.nilFunc] 67)).heap[w.heap.size]? = some (.cells #[.nilFunc,.nilFunc,.nilFunc,.nilFunc] 67 (0,0)) := World.alloc_heap_new w _
 have hB := (Below.refl w.heap.size w).alloc (Nat.le_refl _) (.cells #[.nilFunc,.nilFunc,.nilFunc,.nilFunc] 67)
 go_enter Tryz.func31,Tryz.ntmps31
 go_wp2_with (refine wpList_store_row rfl 67 _ _ rfl w.heap.size alC rfl rfl 67 _ hz (by kernel_rfl) rfl (by kernel_rfl) ?_)
 exact bodyPost_ret (results_cell_row rfl _ _ w.heap.size 67 _ (0,0) _ rfl (setRow_heap _ _ _ _ 67 _ hz) Tryz.underlying67 rfl (by kernel_rfl)) rfl ⟨rfl,hB.trans ((Turns.setRow (X := fun k => k = w.heap.size) _ rfl _).below hB.size (fun k hk => by omega))⟩
def capB (p : Pa) (n : Nat) (k : Int) : Bool := decide (2 ≤ p.p.p14) && (decide (0 < n) && (k == 1))
theorem hasCapital_any (p : Pa) (w : World) (g n cap : Nat) (M : Nat → Ms) (hn : n ≤ 4096) (a : Option Addr) (ha : 0 < n → a = some ⟨g,0,none⟩) (hR : RF w g 0 n M) :
  Calls Tryz.prog 24 #[paV p,.slice a n cap] w fun e w' => e = .returned (.bool (capB p n (M 0).k)) ∧ Below w.heap.size w w' := by
 have hB := (Below.refl w.heap.size w).alloc (Nat.le_refl _) (Obj.cells (paC p) 27)
 have hP := PB.new w p
 have c16 : (w.alloc (.cells (paC p) 27)).cell? ⟨w.heap.size,16,none⟩ = some (.int .i64 p.p.p14) := hP.cell (k := 16) rfl
 have hc : 0 < n → (w.alloc (.cells (paC p) 27)).cell? ⟨g,2,none⟩ = some (.int .i64 (M 0).k) := fun h => ((hR.below hB (fun h => hR.lt h)).c h).2.2.1
 have hn' : (n : Int) ≤ 4096 := by omega
 clear hR hP
 unfold paV capB
 generalize hw1 : w.alloc (.cells (paC p) 27) = w1 at *
 by_cases h1 : 2 ≤ p.p.p14
 ·by_cases h2 : 0 < n
  ·obtain rfl := ha h2
   have c2 := hc h2
   have h2' : (0 : Int) < n := by omega
   rw [show decide (2 ≤ p.p.p14) = true by simpa using h1,show decide (0 < n) = true by simpa using h2]
   go_enter Tryz.func24,Tryz.ntmps24
   go_wp2_with fail
   go_ret
   exact ⟨by simp,hB⟩
  ·rw [show decide (2 ≤ p.p.p14) = true by simpa using h1,show decide (0 < n) = false by simpa using h2]
   have h2' : ¬ (0 : Int) < n := by omega
   go_enter Tryz.func24,Tryz.ntmps24
   go_wp2_with fail
   go_ret
   exact ⟨by simp,hB⟩
 ·rw [show decide (2 ≤ p.p.p14) = false by simpa using h1]
  go_enter Tryz.func24,Tryz.ntmps24
  go_wp2_with fail
  go_ret
  exact ⟨by simp,hB⟩
def shyW (s : Int) : Int := wVal ⟨#[45]⟩ s
theorem shyphenWidth_any (s : Int) (w : World) : Calls Tryz.prog 28 #[.int .i64 s] w fun e w' => e = .returned (.int .i64 (shyW s)) ∧ w' = w := by
 have h := Width_any ⟨#[45]⟩ s w
 unfold shyW
 generalize wVal ⟨#[45]⟩ s = a at *
 generalize wErr ⟨#[45]⟩ s = b at *
 go_enter Tryz.func28,Tryz.ntmps28
 go_wp2_with (go_at_call 59; refine h.mono ?_; rintro e w' ⟨rfl,rfl⟩)
 go_ret
 exact ⟨rfl,rfl⟩
end Go.Proofs.YtbdpghjegachaaaGreatDoor

namespace Go.Proofs.YtbdpghjegachaaaGreatDoor
open Go.RowKit Go.Shelf
set_option maxRecDepth 100000
set_option maxHeartbeats 1000000

theorem wrap_i {x : Int} (h1 : -9223372036854775808 ≤ x) (h2 : x ≤ 9223372036854775807) : IntKind.i64.wrap x = x := by rw [IntKind.wrap_i64]; omega
structure W5 (g p : Nat) (kq kw : Int) (W : World) : Prop where
 c5 : W.cell? ⟨g,p + 5,none⟩ = some (.int .i64 kq)
 c4 : W.cell? ⟨g,p + 4,none⟩ = some (.int .i64 kw)
def fr30 (v0 v1 v2 v3 v4 v5 v6 v7 v8 v9 xa xb xc xd xe xf xg xh xi xj xk xl xm xn xo xp xq xr xt xu xv xw xx xy xz xA xB xC xD xE xF xG xH xI xJ xK xL xM xN xO xP xQ xR xS xT xU xV xW xX : Value) : Act := { tmps := #[v0,v1,v2,v3,v4,v5,v6,v7,v8,v9,xa,xb,xc,xd,xe,xf,xg,xh,xi,xj,xk,xl,xm,xn,xo,xp,xq,xr,xt,xu,xv,xw,xx,xy,xz,xA,xB,xC,xD,xE,xF,xG,xH,xI,xJ,xK,xL,xM,xN,xO,xP,xQ,xR,xS,xT,xU,xV,xW,xX],defers := [] }
def ops30_8_0 (ps : String) : Oper := ⟨some 36,.move (.tmp 3),108,ps,#[],none⟩
def ops30_8_1 (ps : String) : Oper := ⟨some 37,.move (.tmp 5),119,ps,#[],none⟩
def ops30_8_2 (ps : String) : Oper := ⟨some 38,.nilCheck (.tmp 37),0,ps,#[⟨1,.data⟩],none⟩
def ops30_8_3 (ps : String) : Oper := ⟨some 39,.fieldAddr 53 (.tmp 38) 5,0,ps,#[⟨2,.data⟩],none⟩
def ops30_8_4 (ps : String) : Oper := ⟨some 40,.load 3 (.tmp 39),3,ps,#[⟨3,.data⟩],none⟩
def ops30_8_5 (ps : String) : Oper := ⟨some 41,.move (.tmp 5),119,ps,#[],none⟩
def ops30_8_6 (ps : String) : Oper := ⟨some 42,.nilCheck (.tmp 41),0,ps,#[⟨5,.data⟩],none⟩
def ops30_8_7 (ps : String) : Oper := ⟨some 43,.fieldAddr 53 (.tmp 42) 4,0,ps,#[⟨6,.data⟩],none⟩
def ops30_8_8 (ps : String) : Oper := ⟨some 44,.load 3 (.tmp 43),3,ps,#[⟨7,.data⟩],none⟩
def ops30_8_9 (ps : String) : Oper := ⟨some 45,.call ⟨.value (.tmp 36),#[.tmp 40,.tmp 44],#[3,3]⟩,3,ps,#[⟨0,.data⟩,⟨4,.data⟩,⟨8,.data⟩],none⟩
def ops30_8 (ps : String) : Array Oper := #[ops30_8_0 ps,ops30_8_1 ps,ops30_8_2 ps,ops30_8_3 ps,ops30_8_4 ps,ops30_8_5 ps,ops30_8_6 ps,ops30_8_7 ps,ops30_8_8 ps,ops30_8_9 ps]

theorem nt_r8 (Q : Exit → Act → World → Prop) (hQ : ∀ c x (n : Nat) v w,Q (.panic c) (x.put (some n) v) w → Q (.panic c) x w) (id : Nat) (ps : String) {v0 v1 v2 v4 v6 v7 v8 v9 xa xb xc xd xe xf xg xh xi xj xk xl xm xn xo xp xq xr xt xu xv xw xx xy xz xA xB xC xD xE xF xG xH xI xJ xK xL xM xN xO xP xQ xR xS xT xU xV xW xX : Value} (c g p : Nat) (kq kw : Int) (PP : World → Prop) (w : World) (hS : W5 g p kq kw (World.drew w))
  (hc : Hid (Calls Tryz.prog 103 #[.int .i64 kq,.int .i64 kw,.pointer (some ⟨c,0,none⟩)] (World.drew w) fun e w' => ∃ v,e = .returned v ∧ PP w' ∧ w'.cell? ⟨g,p + 5,none⟩ = some (.int .i64 kq) ∧ w'.cell? ⟨g,p + 4,none⟩ = some (.int .i64 kw)))
  (hq : ∀ vv w',PP w' → Q .normal (fr30 v0 v1 v2 (.func (.func 103) #[] #[.pointer (some ⟨c,0,none⟩)]) v4 (.pointer (some ⟨g,p,none⟩)) v6 v7 v8 v9 xa xb xc xd xe xf xg xh xi xj xk xl xm xn xo xp xq xr xt xu xv xw xx xy xz xA (.func (.func 103) #[] #[.pointer (some ⟨c,0,none⟩)]) (.pointer (some ⟨g,p,none⟩)) (.pointer (some ⟨g,p,none⟩)) (.pointer (some ⟨g,p + 5,none⟩)) (.int .i64 kq) (.pointer (some ⟨g,p,none⟩)) (.pointer (some ⟨g,p,none⟩)) (.pointer (some ⟨g,p + 4,none⟩)) (.int .i64 kw) vv xL xM xN xO xP xQ xR xS xT xU xV xW xX) w') :
  (Code.region id (ops30_8 ps) true).wp Tryz.prog Q (fr30 v0 v1 v2 (.func (.func 103) #[] #[.pointer (some ⟨c,0,none⟩)]) v4 (.pointer (some ⟨g,p,none⟩)) v6 v7 v8 v9 xa xb xc xd xe xf xg xh xi xj xk xl xm xn xo xp xq xr xt xu xv xw xx xy xz xA xB xC xD xE xF xG xH xI xJ xK xL xM xN xO xP xQ xR xS xT xU xV xW xX) w := by
 refine wp_region_held (S := W5 g p kq kw) (by kernel_rfl) ?_
 change wpAnyH _ _ _ _ _ 10 _ _ (World.drew w)
 refine take_r 0 ⟨some 36,.move (.tmp 3),108,ps,#[],none⟩ (.func (.func 103) #[] #[.pointer (some ⟨c,0,none⟩)]) hQ (fun w _ => by kernel_rfl) hS ?_
 refine take_r 1 ⟨some 37,.move (.tmp 5),119,ps,#[],none⟩ (.pointer (some ⟨g,p,none⟩)) hQ (fun w _ => by kernel_rfl) hS ?_
 refine take_r 2 ⟨some 38,.nilCheck (.tmp 37),0,ps,#[⟨1,.data⟩],none⟩ (.pointer (some ⟨g,p,none⟩)) hQ (fun w hS => by unfold fr30; go_simp) hS ?_
 refine take_r 3 ⟨some 39,.fieldAddr 53 (.tmp 38) 5,0,ps,#[⟨2,.data⟩],none⟩ (.pointer (some ⟨g,p + 5,none⟩)) hQ (fun w hS => by unfold fr30; go_simp) hS ?_
 refine take_r 4 ⟨some 40,.load 3 (.tmp 39),3,ps,#[⟨3,.data⟩],none⟩ (.int .i64 kq) hQ (fun w hS => by have e := hS.c5; unfold fr30; go_simp) hS ?_
 refine take_k 5 (ops30_8_5 ps) (.pointer (some ⟨g,p,none⟩)) (fr30 v0 v1 v2 (.func (.func 103) #[] #[.pointer (some ⟨c,0,none⟩)]) v4 (.pointer (some ⟨g,p,none⟩)) v6 v7 v8 v9 xa xb xc xd xe xf xg xh xi xj xk xl xm xn xo xp xq xr xt xu xv xw xx xy xz xA (.func (.func 103) #[] #[.pointer (some ⟨c,0,none⟩)]) (.pointer (some ⟨g,p,none⟩)) (.pointer (some ⟨g,p,none⟩)) (.pointer (some ⟨g,p + 5,none⟩)) (.int .i64 kq) (.pointer (some ⟨g,p,none⟩)) xH xI xJ xK xL xM xN xO xP xQ xR xS xT xU xV xW xX) hQ (fun w _ => by kernel_rfl) hS ?_
 refine take_r 6 ⟨some 42,.nilCheck (.tmp 41),0,ps,#[⟨5,.data⟩],none⟩ (.pointer (some ⟨g,p,none⟩)) hQ (fun w hS => by unfold fr30; go_simp) hS ?_
 refine take_r 7 ⟨some 43,.fieldAddr 53 (.tmp 42) 4,0,ps,#[⟨6,.data⟩],none⟩ (.pointer (some ⟨g,p + 4,none⟩)) hQ (fun w hS => by unfold fr30; go_simp) hS ?_
 refine take_r 8 ⟨some 44,.load 3 (.tmp 43),3,ps,#[⟨7,.data⟩],none⟩ (.int .i64 kw) hQ (fun w hS => by have e := hS.c4; unfold fr30; go_simp) hS ?_
 refine want_k 9 (ops30_8_9 ps) fun K hK => ?_
 unfold fr30 ops30_8_9
 go_simp
 refine hc.out.mono ?_
 rintro e w1 ⟨vv,rfl,hP,h5,h4⟩
 have hS1 : W5 g p kq kw w1 := ⟨h5,h4⟩
 refine hK _ _ hS1 (cast_h (fr30 v0 v1 v2 (.func (.func 103) #[] #[.pointer (some ⟨c,0,none⟩)]) v4 (.pointer (some ⟨g,p,none⟩)) v6 v7 v8 v9 xa xb xc xd xe xf xg xh xi xj xk xl xm xn xo xp xq xr xt xu xv xw xx xy xz xA (.func (.func 103) #[] #[.pointer (some ⟨c,0,none⟩)]) (.pointer (some ⟨g,p,none⟩)) (.pointer (some ⟨g,p,none⟩)) (.pointer (some ⟨g,p + 5,none⟩)) (.int .i64 kq) (.pointer (some ⟨g,p,none⟩)) (.pointer (some ⟨g,p,none⟩)) (.pointer (some ⟨g,p + 4,none⟩)) (.int .i64 kw) vv xL xM xN xO xP xQ xR xS xT xU xV xW xX) (by kernel_rfl) ?_)
 clear hK K
 exact wpAnyH_done (by kernel_rfl) (hq _ _ hP) _
structure R23 (r : Nat) (x h : Int) (W : World) : Prop where
 c2 : W.cell? ⟨r,2,none⟩ = some (.int .i64 x)
 c3 : W.cell? ⟨r,3,none⟩ = some (.int .i64 h)
def ops30_10_0 (ps : String) : Oper := ⟨some 47,.move (.tmp 3),108,ps,#[],none⟩
def ops30_10_1 (ps : String) : Oper := ⟨some 48,.call ⟨.value (.tmp 47),#[.const (.int .i64 0),.const (.int .i64 0)],#[3,3]⟩,3,ps,#[⟨0,.data⟩],none⟩
def ops30_10_2 (ps : String) : Oper := ⟨some 49,.move (.tmp 0),69,ps,#[],none⟩
def ops30_10_3 (ps : String) : Oper := ⟨some 50,.nilCheck (.tmp 49),0,ps,#[⟨2,.data⟩],none⟩
def ops30_10_4 (ps : String) : Oper := ⟨some 51,.fieldAddr 60 (.tmp 50) 3,0,ps,#[⟨3,.data⟩],none⟩
def ops30_10_5 (ps : String) : Oper := ⟨some 52,.load 3 (.tmp 51),3,ps,#[⟨4,.data⟩],none⟩
def ops30_10_6 (ps : String) : Oper := ⟨some 53,.binOp .add 3 (.tmp 48) (.tmp 52) 3,3,ps,#[⟨1,.data⟩,⟨5,.data⟩],none⟩
def ops30_10_7 (ps : String) : Oper := ⟨some 54,.move (.tmp 0),69,ps,#[],none⟩
def ops30_10_8 (ps : String) : Oper := ⟨some 55,.nilCheck (.tmp 54),0,ps,#[⟨7,.data⟩],none⟩
def ops30_10_9 (ps : String) : Oper := ⟨some 56,.fieldAddr 60 (.tmp 55) 2,0,ps,#[⟨8,.data⟩],none⟩
def ops30_10_10 (ps : String) : Oper := ⟨some 57,.load 3 (.tmp 56),3,ps,#[⟨9,.data⟩],none⟩
def ops30_10_11 (ps : String) : Oper := ⟨some 58,.binOp .sub 3 (.tmp 53) (.tmp 57) 3,3,ps,#[⟨6,.data⟩,⟨10,.data⟩],none⟩
def ops30_10_12 (ps : String) : Oper := ⟨some 2,.assign (.tmp 58),3,ps,#[⟨11,.data⟩,⟨1,.chain⟩,⟨0,.phase⟩,⟨1,.phase⟩,⟨2,.phase⟩,⟨3,.phase⟩,⟨4,.phase⟩,⟨5,.phase⟩,⟨6,.phase⟩,⟨7,.phase⟩,⟨8,.phase⟩,⟨9,.phase⟩,⟨10,.phase⟩,⟨11,.phase⟩],none⟩
def ops30_10 (ps : String) : Array Oper := #[ops30_10_0 ps,ops30_10_1 ps,ops30_10_2 ps,ops30_10_3 ps,ops30_10_4 ps,ops30_10_5 ps,ops30_10_6 ps,ops30_10_7 ps,ops30_10_8 ps,ops30_10_9 ps,ops30_10_10 ps,ops30_10_11 ps,ops30_10_12 ps]

theorem nt_r10 (Q : Exit → Act → World → Prop) (hQ : ∀ c x (n : Nat) v w,Q (.panic c) (x.put (some n) v) w → Q (.panic c) x w) (id : Nat) (ps : String) {v1 v2 v4 v5 v6 v7 v8 v9 xa xb xc xd xe xf xg xh xi xj xk xl xm xn xo xp xq xr xt xu xv xw xx xy xz xA xB xC xD xE xF xG xH xI xJ xK xL xM xN xO xP xQ xR xS xT xU xV xW xX : Value} (c r : Nat) (x h y : Int) (PP : World → Prop) (w : World) (hS : R23 r x h (World.drew w))
  (b1 : 0 ≤ x) (b2 : x ≤ 4095) (b3 : 0 ≤ h) (b4 : h ≤ 4095) (b5 : 0 ≤ y) (b6 : y ≤ 100000000) (hc : Hid (Calls Tryz.prog 103 #[.int .i64 0,.int .i64 0,.pointer (some ⟨c,0,none⟩)] (World.drew w) fun e w' => e = .returned (.int .i64 y) ∧ PP w' ∧ w'.cell? ⟨r,2,none⟩ = some (.int .i64 x) ∧ w'.cell? ⟨r,3,none⟩ = some (.int .i64 h)))
  (hq : ∀ w',PP w' → Q .normal (fr30 (.pointer (some ⟨r,0,none⟩)) v1 (.int .i64 ((y + h) - x)) (.func (.func 103) #[] #[.pointer (some ⟨c,0,none⟩)]) v4 v5 v6 v7 v8 v9 xa xb xc xd xe xf xg xh xi xj xk xl xm xn xo xp xq xr xt xu xv xw xx xy xz xA xB xC xD xE xF xG xH xI xJ xK xL (.func (.func 103) #[] #[.pointer (some ⟨c,0,none⟩)]) (.int .i64 y) (.pointer (some ⟨r,0,none⟩)) (.pointer (some ⟨r,0,none⟩)) (.pointer (some ⟨r,3,none⟩)) (.int .i64 h) (.int .i64 (y + h)) (.pointer (some ⟨r,0,none⟩)) (.pointer (some ⟨r,0,none⟩)) (.pointer (some ⟨r,2,none⟩)) (.int .i64 x) (.int .i64 ((y + h) - x))) w') :
  (Code.region id (ops30_10 ps) true).wp Tryz.prog Q (fr30 (.pointer (some ⟨r,0,none⟩)) v1 v2 (.func (.func 103) #[] #[.pointer (some ⟨c,0,none⟩)]) v4 v5 v6 v7 v8 v9 xa xb xc xd xe xf xg xh xi xj xk xl xm xn xo xp xq xr xt xu xv xw xx xy xz xA xB xC xD xE xF xG xH xI xJ xK xL xM xN xO xP xQ xR xS xT xU xV xW xX) w := by
 refine wp_region_held (S := R23 r x h) (by kernel_rfl) ?_
 change wpAnyH _ _ _ _ _ 13 _ _ (World.drew w)
 refine take_r 0 ⟨some 47,.move (.tmp 3),108,ps,#[],none⟩ (.func (.func 103) #[] #[.pointer (some ⟨c,0,none⟩)]) hQ (fun w _ => by kernel_rfl) hS ?_
 refine take_r 2 ⟨some 49,.move (.tmp 0),69,ps,#[],none⟩ (.pointer (some ⟨r,0,none⟩)) hQ (fun w _ => by kernel_rfl) hS ?_
 refine take_r 3 ⟨some 50,.nilCheck (.tmp 49),0,ps,#[⟨2,.data⟩],none⟩ (.pointer (some ⟨r,0,none⟩)) hQ (fun w hS => by unfold fr30; go_simp) hS ?_
 refine take_r 4 ⟨some 51,.fieldAddr 60 (.tmp 50) 3,0,ps,#[⟨3,.data⟩],none⟩ (.pointer (some ⟨r,3,none⟩)) hQ (fun w hS => by unfold fr30; go_simp) hS ?_
 refine take_r 5 ⟨some 52,.load 3 (.tmp 51),3,ps,#[⟨4,.data⟩],none⟩ (.int .i64 h) hQ (fun w hS => by have e := hS.c3; unfold fr30; go_simp) hS ?_
 refine take_k 7 (ops30_10_7 ps) (.pointer (some ⟨r,0,none⟩)) (fr30 (.pointer (some ⟨r,0,none⟩)) v1 v2 (.func (.func 103) #[] #[.pointer (some ⟨c,0,none⟩)]) v4 v5 v6 v7 v8 v9 xa xb xc xd xe xf xg xh xi xj xk xl xm xn xo xp xq xr xt xu xv xw xx xy xz xA xB xC xD xE xF xG xH xI xJ xK xL (.func (.func 103) #[] #[.pointer (some ⟨c,0,none⟩)]) xN (.pointer (some ⟨r,0,none⟩)) (.pointer (some ⟨r,0,none⟩)) (.pointer (some ⟨r,3,none⟩)) (.int .i64 h) xS (.pointer (some ⟨r,0,none⟩)) xU xV xW xX) hQ (fun w _ => by kernel_rfl) hS ?_
 refine take_r 8 ⟨some 55,.nilCheck (.tmp 54),0,ps,#[⟨7,.data⟩],none⟩ (.pointer (some ⟨r,0,none⟩)) hQ (fun w hS => by unfold fr30; go_simp) hS ?_
 refine take_r 9 ⟨some 56,.fieldAddr 60 (.tmp 55) 2,0,ps,#[⟨8,.data⟩],none⟩ (.pointer (some ⟨r,2,none⟩)) hQ (fun w hS => by unfold fr30; go_simp) hS ?_
 refine take_r 10 ⟨some 57,.load 3 (.tmp 56),3,ps,#[⟨9,.data⟩],none⟩ (.int .i64 x) hQ (fun w hS => by have e := hS.c2; unfold fr30; go_simp) hS ?_
 refine want_k 1 (ops30_10_1 ps) fun K hK => ?_
 unfold fr30 ops30_10_1
 go_simp
 refine hc.out.mono ?_
 rintro e w1 ⟨rfl,hP,h2,h3⟩
 have hS1 : R23 r x h w1 := ⟨h2,h3⟩
 refine hK _ _ hS1 (cast_h (fr30 (.pointer (some ⟨r,0,none⟩)) v1 v2 (.func (.func 103) #[] #[.pointer (some ⟨c,0,none⟩)]) v4 v5 v6 v7 v8 v9 xa xb xc xd xe xf xg xh xi xj xk xl xm xn xo xp xq xr xt xu xv xw xx xy xz xA xB xC xD xE xF xG xH xI xJ xK xL (.func (.func 103) #[] #[.pointer (some ⟨c,0,none⟩)]) (.int .i64 y) (.pointer (some ⟨r,0,none⟩)) (.pointer (some ⟨r,0,none⟩)) (.pointer (some ⟨r,3,none⟩)) (.int .i64 h) xS (.pointer (some ⟨r,0,none⟩)) (.pointer (some ⟨r,0,none⟩)) (.pointer (some ⟨r,2,none⟩)) (.int .i64 x) xX) (by kernel_rfl) ?_)
 clear hK K
 refine take_r 6 ⟨some 53,.binOp .add 3 (.tmp 48) (.tmp 52) 3,3,ps,#[⟨1,.data⟩,⟨5,.data⟩],none⟩ (.int .i64 (y + h)) hQ (fun w hS => by unfold fr30; go_simp; try exact wrap_i (by omega) (by omega)) hS1 ?_
 refine take_r 11 ⟨some 58,.binOp .sub 3 (.tmp 53) (.tmp 57) 3,3,ps,#[⟨6,.data⟩,⟨10,.data⟩],none⟩ (.int .i64 ((y + h) - x)) hQ (fun w hS => by unfold fr30; go_simp; try exact wrap_i (by omega) (by omega)) hS1 ?_
 refine take_r 12 ⟨some 2,.assign (.tmp 58),3,ps,#[⟨11,.data⟩,⟨1,.chain⟩,⟨0,.phase⟩,⟨1,.phase⟩,⟨2,.phase⟩,⟨3,.phase⟩,⟨4,.phase⟩,⟨5,.phase⟩,⟨6,.phase⟩,⟨7,.phase⟩,⟨8,.phase⟩,⟨9,.phase⟩,⟨10,.phase⟩,⟨11,.phase⟩],none⟩ (.int .i64 ((y + h) - x)) hQ (fun w _ => by kernel_rfl) hS1 ?_
 exact wpAnyH_done (by kernel_rfl) (hq _ hP) _
end Go.Proofs.YtbdpghjegachaaaGreatDoor
