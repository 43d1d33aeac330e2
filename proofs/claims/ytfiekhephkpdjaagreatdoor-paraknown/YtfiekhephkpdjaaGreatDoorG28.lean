/-
  What is proved here: what DeleteFunc does to what is open.
  What is proved here: what reach of least answers.
-/
import Derived.Test.YtfiekhephkpdjaaGreatDoorG27
namespace Go.Proofs.YtfiekhephkpdjaaGreatDoor
open Go.RowKit Go.Shelf
set_option maxRecDepth 100000
set_option maxHeartbeats 4000000

def dlL (P : Pl) (b n : Nat) (L : List Re) : List Re := L.filter (fun x => !byB P x.s b n)
theorem dl_none {P : Pl} {b n : Nat} {L : List Re} (h : ∀ k (hk : k < L.length),byB P L[k].s b n = false) : dlL P b n L = L := by
 unfold dlL
 rw [List.filter_eq_self]
 intro x hx
 obtain ⟨k,hk,rfl⟩ := List.getElem_of_mem hx
 rw [h k hk]; rfl
theorem dl_take {P : Pl} {b n : Nat} {L : List Re} {k : Nat} (hk : k < L.length) : dlL P b n (L.take (k + 1)) = dlL P b n (L.take k) ++ (if byB P L[k].s b n = true then [] else [L[k]]) := by
 unfold dlL
 rw [List.take_succ_eq_append_getElem hk,List.filter_append]
 congr 1
 cases h : byB P L[k].s b n
 ·rw [if_neg (by decide)]; simp [h]
 ·rw [if_pos rfl]; simp [h]
theorem dl_front {P : Pl} {b n : Nat} {L : List Re} {k : Nat} (hk : k < L.length) (h1 : byB P L[k].s b n = true) (h2 : ∀ j (_ : j < k) (hj : j < L.length),byB P L[j].s b n = false) : dlL P b n (L.take (k + 1)) = L.take k := by
 rw [dl_take hk,if_pos h1,List.append_nil]
 exact dl_none fun j hj => by
  have hj' : j < k := by rw [List.length_take] at hj; omega
  rw [List.getElem_take]
  exact h2 j hj' (by omega)
structure DlI (z : World) (P : Pl) (x1 x2 x3 b n base g cap : Nat) (L M : List Re) (i j : Nat) (W : World) : Prop where
 low : Turns (fun k => k = g) z W
 cl : ClS P x1 x2 x3 b n W
 ow : OwB base 236 4 reL W g cap M
 len : M.length = L.length
 fr : M.take i = dlL P b n (L.take j)
 bk : ∀ q,j ≤ q → M[q]? = L[q]?
 ij : i < j
 jl : j ≤ L.length
theorem first_by {P : Pl} {b n : Nat} : ∀ {L : List Re},¬ (∀ k (hk : k < L.length),byB P L[k].s b n = false) → ∃ k,∃ hk : k < L.length,byB P L[k].s b n = true ∧ ∀ j (_ : j < k) (hj : j < L.length),byB P L[j].s b n = false
 | [],h => absurd (fun k hk => by simp at hk) h
 | x :: r, h => by
  cases hx : byB P x.s b n with
  | true => exact ⟨0,by simp,hx,fun j hj => by omega⟩
  | false =>
   have h2 : ¬ (∀ k (hk : k < r.length),byB P r[k].s b n = false) := fun h3 => h fun k hk => by
    cases k with
    | zero => exact hx
    | succ k => exact h3 k (by simpa using hk)
   obtain ⟨k,hk,h4,h5⟩ := first_by h2
   refine ⟨k + 1,by simpa using hk,h4,fun j hj hjl => ?_⟩
   cases j with
   | zero => exact hx
   | succ j => exact h5 j (by omega) (by simpa using hjl)
theorem dl_next {w wr : World} {P : Pl} {x1 x2 x3 b n base g cap : Nat} {L M : List Re} {i j : Nat} (hlw : P.B ≠ g ∧ P.gs ≠ g ∧ P.gw ≠ g ∧ x1 ≠ g ∧ x2 ≠ g ∧ x3 ≠ g) (hI : DlI w P x1 x2 x3 b n base g cap L M i j wr) (hlt : j < L.length) (hjM : j < M.length) {W : World}
  (hb0 : Below wr.heap.size wr (wr.alloc (.cells (reL M[j]).toArray 236))) (hW : Below (wr.alloc (.cells (reL M[j]).toArray 236)).heap.size (wr.alloc (.cells (reL M[j]).toArray 236)) W) :
  W.heap[wr.heap.size]? = some (.cells (reL M[j]).toArray 236 (0,0)) ∧ W.there g (i * 4) 4 ∧ (byB P M[j].s b n = true → DlI w P x1 x2 x3 b n base g cap L M i (j + 1) W) ∧ (byB P M[j].s b n = false → DlI w P x1 x2 x3 b n base g cap L (M.set i M[j]) (i + 1) (j + 1) (W.setCells g (i * 4) (reL M[j]))) := by
 have hbw := hb0.trans (hW.mono hb0.size)
 have hbg := hI.ow.bg
 have hgl := hI.ow.rb.lt
 have hij := hI.ij
 have hlen := hI.len
 have hO := hI.ow.below hbw
 have hlow : Turns (fun k => k = g) w W := hI.low.trans ((Turns.of_below hbw).mono (fun _ h => h.elim))
 have eML : M[j] = L[j] := by
  have := hI.bk j (Nat.le_refl _)
  rw [List.getElem?_eq_getElem hjM,List.getElem?_eq_getElem hlt] at this
  exact Option.some.inj this
 refine ⟨(hW.block _ (by simp)).trans (World.alloc_heap_new wr _),hO.rb.there reL_len (by omega),fun h => ?_,fun h => ?_⟩
 ·exact ⟨hlow,hI.cl.below hbw,hO,hlen,by rw [hI.fr,dl_take hlt,if_pos (by rw [← eML]; exact h),List.append_nil],fun q hq => hI.bk q (by omega),by omega,by omega⟩
 ·have ht := turns_setCells (X := fun k => k = g) rfl (reL M[j]) (i * 4) W
  refine ⟨hlow.trans ht,(hI.cl.below hbw).keep ht hlw.1 hlw.2.1 hlw.2.2.1 hlw.2.2.2.1 hlw.2.2.2.2.1 hlw.2.2.2.2.2,hO.set reL_len (by omega) _,by simpa using hlen,?_,fun q hq => ?_,by omega,by omega⟩
  ·rw [dl_take hlt,if_neg (by rw [← eML,h]; decide),← hI.fr,← eML]
   rw [List.take_succ_eq_append_getElem (by simp; omega),List.getElem_set_self,List.take_set_of_le (Nat.le_refl _)]
  ·rw [List.getElem?_set_ne (by omega)]
   exact hI.bk q (by omega)
theorem low140 {g n cap i : Nat} (h1 : i < n) (h2 : n ≤ cap) (W : World) : (Instr.slice 233 (.slice (some ⟨g,0,none⟩) n cap) (some (.int .i64 (i : Int))) none none).run Tryz.prog W = .ok (.slice (some ⟨g,i * 4,none⟩) (n - i) (cap - i)) W := by
 have he : Tryz.prog.elem 233 = 236 := by kernel_rfl
 have hu : Tryz.prog.underlying 233 = some (.slice (Tryz.prog.elem 233)) := by rw [he]; exact Tryz.underlying233
 have hr := run_slice_l (P := Tryz.prog) (w := W) 233 (some ⟨g,0,none⟩) n cap hu .i64 i (by omega) (by omega)
 have hs : (sizeOf (Tryz.prog.elem 233)).run Tryz.prog W = .ok 4 W := by kernel_rfl
 simp only [hs,Result.andThen,sliced,Int.toNat_natCast] at hr
 rw [hr,if_neg (by omega)]
 simp [addr_add0]
theorem delete_any (l : List It) (P : Pl) (hO : PlOk l P) (x1 x2 x3 b n base : Nat) (v : Value) (L : List Re) (hL : L.length ≤ 9000) (hr : ∀ x ∈ L,x.s < P.sts.length) (hb : b < P.sts.length) (hn : n < P.wds.length) (w : World) (hC : ClS P x1 x2 x3 b n w) (hbs : base ≤ w.heap.size) (hne : ∀ g,v.ownBlock = some g → P.B ≠ g ∧ P.gs ≠ g ∧ P.gw ≠ g ∧ x1 ≠ g ∧ x2 ≠ g ∧ x3 ≠ g) (hV : w.ownsRow base 236 4 v L.length (L.flatMap reL)) :
  Calls Tryz.prog 138 #[v,.func (.func 139) #[] #[.pointer (some ⟨x1,0,none⟩),.pointer (some ⟨x2,0,none⟩),.pointer (some ⟨x3,0,none⟩)]] w fun e w' => (∃ v',e = .returned v' ∧ w'.ownsRow base 236 4 v' (dlL P b n L).length ((dlL P b n L).flatMap reL) ∧ v'.ownBlock = v.ownBlock) ∧ Turns (fun k => v.ownBlock = some k) w w' := by
 have hRA := rec_of_row reL_len (rs := L) rfl hV
 have hix := rindex_any l P hO x1 x2 x3 b n v L hL hr hb hn w hC hRA
 obtain ⟨a,cp,rfl,-⟩ := hRA.ex
 have hixh : Hid (Calls Tryz.prog 173 #[.slice a L.length cp,.func (.func 139) #[] #[.pointer (some ⟨x1,0,none⟩),.pointer (some ⟨x2,0,none⟩),.pointer (some ⟨x3,0,none⟩)]] w fun e w' => (∃ x,e = .returned (.int .i64 x) ∧ Hid (IxE P b n L x) ∧ (-1 ≤ x ∧ x ≤ 9000)) ∧ Below w.heap.size w w') := hix.mono fun e w' ⟨⟨x,h1,h2⟩,h3⟩ => ⟨⟨x,h1,h2,by
  rcases h2 with ⟨rfl,_⟩ | ⟨k,hk,rfl,_⟩
  ·omega
  ·omega⟩,h3⟩
 have h9 : (L.length : Int) ≤ 9000 := by omega
 have hcl : Hid (∀ (M : List Re) i (hi : i < M.length) W,M[i]? = L[i]? → ClS P x1 x2 x3 b n W → Calls Tryz.prog 139 #[.agg #[.int .i64 M[i].s,.int .i64 M[i].y.d,.int .i64 M[i].y.n,.int .i64 M[i].y.f],.pointer (some ⟨x1,0,none⟩),.pointer (some ⟨x2,0,none⟩),.pointer (some ⟨x3,0,none⟩)] W fun e w' => e = .returned (.bool (byB P M[i].s b n)) ∧ Below W.heap.size W w') := fun M i hi W e hW => level1_any l P hO x1 x2 x3 b n M[i] (hr _ (by
  rw [List.getElem?_eq_getElem hi] at e
  exact List.mem_of_getElem? e.symm)) hb hn W hW
 have hVh : Hid (w.ownsRow base 236 4 (.slice a L.length cp) L.length (L.flatMap reL)) := hV
 have hCh : Hid (ClS P x1 x2 x3 b n w) := hC
 have hbsh : Hid (base ≤ w.heap.size) := hbs
 clear hix hRA hV hC hr hbs
 by_cases hall : ∀ k (hk : k < L.length),byB P L[k].s b n = false
 ·have hix2 : Hid (Calls Tryz.prog 173 #[.slice a L.length cp,.func (.func 139) #[] #[.pointer (some ⟨x1,0,none⟩),.pointer (some ⟨x2,0,none⟩),.pointer (some ⟨x3,0,none⟩)]] w fun e w' => e = .returned (.int .i64 (-1)) ∧ Below w.heap.size w w') := hixh.out.mono fun e w' ⟨⟨x,h1,h2,_⟩,h3⟩ => ⟨(by
   rcases h2 with ⟨rfl,_⟩ | ⟨k,hk,rfl,h4,_⟩
   ·exact h1
   ·rw [hall k hk] at h4; cases h4),h3⟩
  have hd : Hid (dlL P b n L = L) := dl_none hall
  clear hixh hcl hall
  go_enter Tryz.func138,Tryz.ntmps138
  go_wp2_with (go_at_call 173; refine hix2.out.mono ?_; rintro e w2 ⟨rfl,hb2⟩)
  go_ret
  exact ⟨⟨_,rfl,by rw [hd.out]; exact ownsRow_below hVh.out hb2,rfl⟩,(Turns.of_below hb2).mono (fun _ h => h.elim)⟩
 ·obtain ⟨k0,hk0,hy0,hn0⟩ : ∃ k,∃ hk : k < L.length,byB P L[k].s b n = true ∧ ∀ j (_ : j < k) (hj : j < L.length),byB P L[j].s b n = false := first_by hall
  have hix2 : Hid (Calls Tryz.prog 173 #[.slice a L.length cp,.func (.func 139) #[] #[.pointer (some ⟨x1,0,none⟩),.pointer (some ⟨x2,0,none⟩),.pointer (some ⟨x3,0,none⟩)]] w fun e w' => e = .returned (.int .i64 (k0 : Nat)) ∧ Below w.heap.size w w') := hixh.out.mono fun e w' ⟨⟨x,h1,h2,_⟩,h3⟩ => ⟨(by
   rcases h2 with ⟨rfl,h5⟩ | ⟨k,hk,rfl,h4,h5⟩
   ·rw [h5 k0 hk0] at hy0; cases hy0
   ·rcases Nat.lt_trichotomy k k0 with h | h | h
    ·rw [hn0 k h hk] at h4; cases h4
    ·rw [← h]; exact h1
    ·rw [h5 k0 h hk0] at hy0; cases hy0),h3⟩
  obtain ⟨g,cap,hv,hOw⟩ := OwB.of_row reL_len hVh.out (by omega)
  obtain rfl : a = some ⟨g,0,none⟩ := by injection hv
  obtain rfl : cp = cap := by injection hv
  have hlw := hne g rfl
  have hI0 : Hid (∀ W,Below w.heap.size w W → DlI w P x1 x2 x3 b n base g cp L L k0 (k0 + 1) W) := fun W hW => ⟨(Turns.of_below hW).mono (fun _ h => h.elim),hCh.out.below hW,hOw.below hW,rfl,(dl_front hk0 hy0 hn0).symm,fun q _ => rfl,by omega,by omega⟩
  have hk8 : (k0 : Int) ≤ 9000 := by omega
  have hkn1 : ((k0 : Int) == -1) = false := by rw [beq_eq_false_iff_ne]; omega
  clear hixh hall hv hOw hVh hCh hy0 hn0
  go_enter Tryz.func138,Tryz.ntmps138
  go_wp2_with (go_at_call 173; refine hix2.out.mono ?_; rintro e w2 ⟨rfl,hb2⟩; have hI2 : Hid (DlI w P x1 x2 x3 b n base g cp L L k0 (k0 + 1) w2) := hI0.out w2 hb2; clear hb2 hI0 hix2)
  go_loopw [5,6] (fun v5 v6 wr => ∃ (i j : Nat) (M : List Re),v5 = .int .i64 i ∧ v6 = .int .i64 j ∧ (i < j ∧ j ≤ L.length) ∧ Hid (DlI w P x1 x2 x3 b n base g cp L M i j wr)) (fun _ v6 _ => L.length - (intOf v6).toNat)
  case atStart => exact ⟨k0,k0 + 1,L,rfl,by simp,by omega,hI2⟩
  case round =>
   obtain ⟨i,j,M,rfl,rfl,⟨hij,hjl⟩,hI⟩ := hrel
   clear hI2
   have hM := hI.out.len
   by_cases hlt : j < L.length
   ·have hlt' : (j : Int) < L.length := by omega
    have hil' : (i : Int) < L.length := by omega
    have hjM : j < M.length := by omega
    have hiM : i < M.length := by omega
    have hbk := hI.out.bk j (Nat.le_refl _)
    have d0 := (hI.out.ow.rb.all j hjM 0 _ rfl).1
    have d1 := (hI.out.ow.rb.all j hjM 1 _ rfl).1
    have d2 := (hI.out.ow.rb.all j hjM 2 _ rfl).1
    have d3 := (hI.out.ow.rb.all j hjM 3 _ rfl).1
    rw [Nat.add_zero] at d0
    have hgl : g < wr.heap.size := hI.out.ow.rb.lt
    have hb0 := (Below.refl wr.heap.size wr).alloc (Nat.le_refl _) (.cells (reL M[j]).toArray 236)
    have hc1 : Hid (Calls Tryz.prog 139 #[.agg #[.int .i64 M[j].s,.int .i64 M[j].y.d,.int .i64 M[j].y.n,.int .i64 M[j].y.f],.pointer (some ⟨x1,0,none⟩),.pointer (some ⟨x2,0,none⟩),.pointer (some ⟨x3,0,none⟩)] (wr.alloc (.cells #[.int .i64 M[j].s,.int .i64 M[j].y.d,.int .i64 M[j].y.n,.int .i64 M[j].y.f] 236)) fun e w' => e = .returned (.bool (byB P M[j].s b n)) ∧ Below (wr.alloc (.cells #[.int .i64 M[j].s,.int .i64 M[j].y.d,.int .i64 M[j].y.n,.int .i64 M[j].y.f] 236)).heap.size (wr.alloc (.cells #[.int .i64 M[j].s,.int .i64 M[j].y.d,.int .i64 M[j].y.n,.int .i64 M[j].y.f] 236)) w') := hcl.out M j hjM _ hbk (hI.out.cl.below hb0)
    have hnx : Hid (∀ W,Below (wr.alloc (.cells #[.int .i64 M[j].s,.int .i64 M[j].y.d,.int .i64 M[j].y.n,.int .i64 M[j].y.f] 236)).heap.size (wr.alloc (.cells #[.int .i64 M[j].s,.int .i64 M[j].y.d,.int .i64 M[j].y.n,.int .i64 M[j].y.f] 236)) W → (W.heap[wr.heap.size]? = some (.cells (reL M[j]).toArray 236 (0,0))) ∧ W.there g (i * 4) 4 ∧ (byB P M[j].s b n = true → DlI w P x1 x2 x3 b n base g cp L M i (j + 1) W) ∧ (byB P M[j].s b n = false → DlI w P x1 x2 x3 b n base g cp L (M.set i M[j]) (i + 1) (j + 1) (W.setCells g (i * 4) (reL M[j])))) := fun W hW => dl_next hlw hI.out hlt hjM hb0 hW
    have hb0' := hb0
    clear hcl hbk hb0 hb0' hI
    generalize M[j] = x at *
    generalize byB P x.s b n = q at *
    cases q with
    | true =>
     go_wp2_with (go_at_call 139; refine hc1.out.mono ?_; rintro e w3 ⟨rfl,hb3⟩; obtain ⟨f1,f2,f3,f4⟩ := hnx.out w3 hb3; have f3h : Hid _ := f3 rfl; clear f1 f2 f3 f4 hb3 hnx hc1)
     exact ⟨⟨i,j + 1,M,rfl,by simp,by omega,f3h⟩,by simp [intOf]; omega⟩
    | false =>
     go_wp2_with (first | (refine wpList_load_row rfl 236 _ rfl wr.heap.size rfl 236 _ (0,0) _ f1 Tryz.underlying236 rfl (info143 _) ?_) | (refine wpList_store_mid rfl 236 _ _ rfl g (i * 4) (reL x).toArray rfl rfl f2h.out (info143 _) (reL_all _) ?_; generalize w3.setCells g (i * 4) (reL x).toArray.toList = w4 at *) | (go_at_call 139; refine hc1.out.mono ?_; rintro e w3 ⟨rfl,hb3⟩; obtain ⟨f1,f2,f3,f4⟩ := hnx.out w3 hb3; have f2h : Hid (w3.there g (i * 4) 4) := f2; have f4h : Hid (DlI w P x1 x2 x3 b n base g cp L (M.set i x) (i + 1) (j + 1) (w3.setCells g (i * 4) (reL x))) := f4 rfl; clear f2 f3 f4 hb3 hnx hc1 d0 d1 d2 d3))
     exact ⟨⟨i + 1,j + 1,M.set i x,by simp,by simp,by omega,f4h⟩,by simp [intOf]; omega⟩
   ·have hge : ¬ (j : Int) < L.length := by omega
    obtain rfl : j = L.length := by omega
    have hil : i < L.length := hij
    have hcpl : L.length ≤ cp := by have := hI.out.ow.len; omega
    have hsl : ∀ W : World,(Instr.slice 233 (.slice (some ⟨g,0,none⟩) L.length cp) (some (.int .i64 (i : Int))) none none).run Tryz.prog W = .ok (.slice (some ⟨g,i * 4,none⟩) (L.length - i) (cp - i)) W := fun W => low140 hil hcpl W
    have hth : wr.there g (i * 4) ((L.length - i) * 4) := fun q hq => by
     have hq2 : i + q / 4 < M.length := by omega
     have h4 := hI.out.ow.rb.there reL_len hq2 (q % 4) (by omega)
     rwa [show (i + q / 4) * 4 + q % 4 = i * 4 + q by omega] at h4
    have hclr : ∀ ty,(Builtin.clear_ #[233] ty #[.slice (some ⟨g,i * 4,none⟩) (L.length - i) (cp - i)]).run Tryz.prog wr = .ok (.tuple #[]) (wr.setCells g (i * 4) (List.replicate ((L.length - i) * 4) (.int .i64 0))) := fun ty => run_clear143 wr ty g (i * 4) (L.length - i) (cp - i) (by omega) hth
    have hil2 : (i : Int) ≤ cp := by omega
    have hend : Hid ((∃ v',Ending.returned (.slice (some ⟨g,0,none⟩) i cp) = .returned v' ∧ (wr.setCells g (i * 4) (List.replicate ((L.length - i) * 4) (.int .i64 0))).ownsRow base 236 4 v' (dlL P b n L).length ((dlL P b n L).flatMap reL) ∧ v'.ownBlock = some g) ∧ Turns (fun k => some g = some k) w (wr.setCells g (i * 4) (List.replicate ((L.length - i) * 4) (.int .i64 0)))) := by
     have h1 := hI.out.ow.clear reL_len i (List.replicate ((L.length - i) * 4) (.int .i64 0))
     have h2 := hI.out.fr
     rw [List.take_of_length_le (Nat.le_refl _)] at h2
     have h3 : (M.take i).length = i := by rw [List.length_take]; omega
     have h4 := h1.row reL_len
     rw [h3] at h4
     have hbg := hI.out.ow.bg
     refine ⟨⟨_,rfl,?_,rfl⟩,(hI.out.low.trans (turns_setCells (X := fun k => k = g) rfl _ _ wr)).mono (fun k hk => by rw [hk])⟩
     rw [← h2,h3]
     exact h4
    clear hth hI hcl
    generalize wr.setCells g (i * 4) (List.replicate ((L.length - i) * 4) (.int .i64 0)) = w4 at *
    go_wp2_with fail
    go_ret
    exact hend.out
end Go.Proofs.YtfiekhephkpdjaaGreatDoor

namespace Go.Proofs.YtfiekhephkpdjaaGreatDoor
open Go.RowKit Go.Shelf

def reS (P : Pl) (b : Nat) (wd : Int) (m : Option Wy) (x : Re) : Option Wy :=
 if dmB (P.sts.getD x.s st0) (P.sts.getD b st0) wd = true then
  match m with
  | none => some ⟨x.y.d + dmV (P.sts.getD x.s st0) (P.sts.getD b st0) wd,x.y.n + 1,x.s⟩
  | some y => if cmpW ⟨x.y.d + dmV (P.sts.getD x.s st0) (P.sts.getD b st0) wd,x.y.n + 1,x.s⟩ y < 0 then some ⟨x.y.d + dmV (P.sts.getD x.s st0) (P.sts.getD b st0) wd,x.y.n + 1,x.s⟩ else some y
 else m
def reG (P : Pl) (b : Nat) (wd : Int) : List Re → Option Wy → Option Wy
 | [],m => m
 | x :: r,m => reG P b wd r (reS P b wd m x)
def reO (P : Pl) (b : Nat) (wd : Int) (L : List Re) : Option Wy := reG P b wd L none
end Go.Proofs.YtfiekhephkpdjaaGreatDoor
