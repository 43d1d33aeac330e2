/-
  What is proved here: what Demerits of least answers.
  What is proved here: what widths of least answers.
-/
import Derived.Test.YtfndocmgonlhpaaGreatDoorG17
namespace Go.Proofs.YtfndocmgonlhpaaGreatDoor
open Go.RowKit Go.Shelf
set_option maxRecDepth 100000
set_option maxHeartbeats 4000000

def deG (ss : List Sl) (r : Sl) : List St → Nat → Option Int
 | [],_ => some 0
 | [_],_ => some 0
 | p :: q :: t,n => if dmB p q (slN ss r n).w = true then (deG ss r (q :: t) (n + 1)).map (dmV p q (slN ss r n).w + ·) else none
def deR (ss : List Sl) (r : Sl) (sts : List St) : Int := (deG ss r sts 0).getD (-1)
def deE (l : List It) (ss : List Sl) (r : Sl) (bs : List Int) : Int := if rfE l ss r ≠ 0 then rfE l ss r else if paO l bs = none then 5 else 0
def deV (l : List It) (ss : List Sl) (r : Sl) (bs : List Int) : Int := if rfE l ss r ≠ 0 then 0 else match paO l bs with | none => 0 | some sts => deR ss r sts
theorem deG_go {ss : List Sl} {r : Sl} {sts : List St} {k : Nat} (hk : k + 1 < sts.length) : deG ss r (sts.drop k) k = if dmB sts[k] sts[k + 1] (slN ss r k).w = true then (deG ss r (sts.drop (k + 1)) (k + 1)).map (dmV sts[k] sts[k + 1] (slN ss r k).w + ·) else none := by
 rw [List.drop_eq_getElem_cons (show k < sts.length by omega),List.drop_eq_getElem_cons hk]
 rfl
theorem deG_end {ss : List Sl} {r : Sl} {sts : List St} {k : Nat} (hk : sts.length = k + 1) : deG ss r (sts.drop k) k = some 0 := by
 rw [List.drop_eq_getElem_cons (show k < sts.length by omega),List.drop_of_length_le (by omega)]
 rfl
theorem rf_ck {l : List It} {ss : List Sl} {r : Sl} (h : rfE l ss r = 0) : ckL l = 0 ∧ ckS ss r = 0 ∧ lpB l = false := by
 unfold rfE at h
 split at h
 ·rename_i h1; exact absurd h h1
 ·rename_i h1
  split at h
  ·rename_i h2; exact absurd h h2
  ·rename_i h2
   split at h
   ·cases h
   ·rename_i h3
    exact ⟨Decidable.not_not.1 h1,Decidable.not_not.1 h2,by simpa using h3⟩
theorem sts_at {W : World} {a : Option Addr} {n cap : Nat} {L : List St} (h : StsAt W (.slice a n cap) L) (hL : 0 < L.length) : ∃ g o,a = some ⟨g,o,none⟩ ∧ g < W.heap.size ∧ ∀ i (hi : i < L.length),StAt g (o + i * 12) L[i] W := by
 obtain ⟨a',cap',h1,h2⟩ := h.ex
 cases h1
 rcases h2 with h2 | ⟨b,o,rfl,hb,hc⟩
 ·rw [h2] at hL; simp at hL
 ·exact ⟨b,o,rfl,hb,fun i hi => ⟨hb,fun j u hu => hc i hi j u hu⟩⟩
theorem slN_ok {ss : List Sl} {r : Sl} (h : ckS ss r = 0) (n : Nat) : okS (slN ss r n) = true := by
 unfold ckS at h
 split at h
 ·cases h
 ·split at h
  ·rename_i h1
   by_cases hn : n < ss.length
   ·rw [slN_in hn]; exact List.all_eq_true.1 h1.2 _ (List.getElem_mem hn)
   ·rw [slN_out (by omega)]; exact h1.1
  ·cases h
theorem okS_rng {s : Sl} (h : okS s = true) : (0 ≤ s.x ∧ s.x ≤ 4095) ∧ 0 ≤ s.w ∧ s.w ≤ 4095 := of_decide_eq_true h
theorem ckS_few {ss : List Sl} {r : Sl} (h : ckS ss r = 0) : ss.length ≤ 256 := by
 unfold ckS at h
 split at h
 ·cases h
 ·omega
theorem sls_slot {W : World} {v : Value} {ss : List Sl} {r : Sl} {k : Nat} (hl : ss.length ≤ 9223372036854775807) (hS : SlsAt W v ss) : Calls Tryz.prog 33 #[v,.agg (slL r).toArray,.int .i64 (k : Nat)] W fun e w' => e = .returned (.agg (slL (slN ss r k)).toArray) ∧ Below W.heap.size W w' := by
 have := fslot_any v ss r k hl W hS
 rw [slI_nat] at this
 exact this
theorem paG_len {l : List It} : ∀ (bs : List Int) (p : Nat) (sts : List St),p ≤ l.length → paG l p bs = some sts → p + bs.length ≤ l.length
 | [],p,sts,hp,e => hp
 | b :: r, p, sts, hp, e => by
  unfold paG at e
  split at e
  ·cases e
  ·rename_i hb
   cases hr : paG l (bgN l b.toNat) r with
   | none => rw [hr] at e; cases e
   | some t =>
    have hbl : b.toNat ≤ l.length := by omega
    have h1 := bg_le hbl
    have h2 := paG_len r _ t h1.2 hr
    rw [List.length_cons]
    omega
theorem paO_len {l : List It} {bs : List Int} {sts : List St} (e : paO l bs = some sts) : bs.length ≤ l.length := by
 unfold paO at e
 split at e
 ·cases hr : paG l (sk l 0) bs with
  | none => rw [hr] at e; cases e
  | some t => have := paG_len bs _ t sk_len hr; omega
 ·cases e
def DeEnd (l : List It) (ss : List Sl) (r : Sl) (bs : List Int) (w : World) (e : Ending) (w' : World) : Prop := e = .returned (.tuple #[.int .i64 (deV l ss r bs),.int .i64 (deE l ss r bs)]) ∧ Below w.heap.size w w'
theorem de_step {ss : List Sl} {r : Sl} {sts : List St} {k : Nat} {s : Int} (hk : k + 1 < sts.length) (hd : dmB sts[k] sts[k + 1] (slN ss r k).w = true) : ((deG ss r (sts.drop k) k).map (s + ·)).getD (-1) = ((deG ss r (sts.drop (k + 1)) (k + 1)).map ((s + dmV sts[k] sts[k + 1] (slN ss r k).w) + ·)).getD (-1) := by
 rw [deG_go hk,if_pos hd]
 cases deG ss r (sts.drop (k + 1)) (k + 1) with
 | none => rfl
 | some x => simp [Int.add_assoc]
theorem demerits23_any (v vs vb : Value) (l : List It) (ss : List Sl) (r : Sl) (bs : List Int) (hl : ss.length ≤ 9223372036854775807) (hbl : bs.length ≤ 9223372036854775807) (w : World) (hS : ItsAt w v l) (hV : SlsAt w vs ss) (hB : IntsAt w vb bs) :
  Calls Tryz.prog 23 #[v,vs,.agg (slL r).toArray,vb] w (DeEnd l ss r bs w) := by
 have hb0 := (Below.refl w.heap.size w).alloc (Nat.le_refl _) (.cells #[.int .i64 r.x,.int .i64 r.w] 29)
 have hbox : (w.alloc (.cells #[.int .i64 r.x,.int .i64 r.w] 29)).heap[w.heap.size]? = some (.cells #[.int .i64 r.x,.int .i64 r.w] 29 (0,0)) := World.alloc_heap_new w _
 have c0 : (w.alloc (.cells #[.int .i64 r.x,.int .i64 r.w] 29)).cell? ⟨w.heap.size,0,none⟩ = some (.int .i64 r.x) := by rw [Lib.cell_of_heap hbox]; rfl
 have c1 : (w.alloc (.cells #[.int .i64 r.x,.int .i64 r.w] 29)).cell? ⟨w.heap.size,1,none⟩ = some (.int .i64 r.w) := by rw [Lib.cell_of_heap hbox]; rfl
 have hrf : Hid (∀ W,Below w.heap.size w W → Calls Tryz.prog 10 #[v,vs,.agg #[.int .i64 r.x,.int .i64 r.w]] W fun e w' => e = .returned (.int .i64 (rfE l ss r)) ∧ Below W.heap.size W w') := fun W hW => lrefuse_any v vs l ss r hl W (hS.below hW (Nat.le_refl _)) (hV.below hW (Nat.le_refl _))
 have hms : Hid (ckL l = 0 → ∀ W,Below w.heap.size w W → Calls Tryz.prog 12 #[v] W fun e w' => (∃ va vc,e = .returned (.agg (ruA v va vc)) ∧ RuAt w' v va vc l) ∧ Below W.heap.size W w') := fun h W hW => (measure_any v l h W (hS.below hW (Nat.le_refl _))).mono fun e w' ⟨va,vc,h1,h2,h3,h4⟩ => ⟨⟨va,vc,h1,(hS.below hW (Nat.le_refl _)).below h4 (Nat.le_refl _),h2,h3⟩,h4⟩
 have hpa : Hid (ckL l = 0 → ∀ va vc W,Below w.heap.size w W → RuAt W v va vc l → Calls Tryz.prog 52 #[.agg (ruA v va vc),vb] W (PaEnd l bs W)) := fun h va vc W hW hR => path_any v va vc vb l bs h hbl W hR (hB.below hW (Nat.le_refl _))
 obtain ⟨a0,k0,rfl,-⟩ := hS.ex
 obtain ⟨a2,k2,rfl,-⟩ := hV.ex
 obtain ⟨a3,k3,rfl,-⟩ := hB.ex
 have hVh : Hid (SlsAt w (.slice a2 ss.length k2) ss) := hV
 have hboxh : Hid (∀ W,Below (w.alloc (.cells #[.int .i64 r.x,.int .i64 r.w] 29)).heap.size (w.alloc (.cells #[.int .i64 r.x,.int .i64 r.w] 29)) W → W.heap[w.heap.size]? = some (.cells (slL r).toArray 29 (0,0)) ∧ Below w.heap.size w W) := fun W hW => ⟨(hW.block _ (by simp)).trans hbox,hb0.trans (hW.mono hb0.size)⟩
 have hlow0 : Hid (Below w.heap.size w (w.alloc (.cells #[.int .i64 r.x,.int .i64 r.w] 29))) := hb0
 clear hS hV hB hb0 hbox
 show Calls Tryz.prog 23 #[.slice a0 l.length k0,.slice a2 ss.length k2,.agg #[.int .i64 r.x,.int .i64 r.w],.slice a3 bs.length k3] w _
 have hend : Hid (∀ d e W,d = deV l ss r bs → e = deE l ss r bs → Below w.heap.size w W → DeEnd l ss r bs w (.returned (.tuple #[.int .i64 d,.int .i64 e])) W) := fun d e W h1 h2 h3 => ⟨by rw [h1,h2],h3⟩
 by_cases h0 : rfE l ss r = 0
 ·obtain ⟨hck,hcs,-⟩ := rf_ck h0
  have q1 : (rfE l ss r != 0) = false := by rw [h0]; rfl
  have hms2 := hms.out hck
  have hpa2 := hpa.out hck
  have hmsh : Hid (∀ W,Below w.heap.size w W → Calls Tryz.prog 12 #[.slice a0 l.length k0] W fun e w' => (∃ va vc,e = .returned (.agg (ruA (.slice a0 l.length k0) va vc)) ∧ RuAt w' (.slice a0 l.length k0) va vc l) ∧ Below W.heap.size W w') := hms2
  have hpah : Hid (∀ va vc W,Below w.heap.size w W → RuAt W (.slice a0 l.length k0) va vc l → Calls Tryz.prog 52 #[.agg (ruA (.slice a0 l.length k0) va vc),.slice a3 bs.length k3] W (PaEnd l bs W)) := hpa2
  have hcsh : Hid (ckS ss r = 0) := hcs
  have hckh : Hid (ckL l = 0) := hck
  clear hms hpa hms2 hpa2 hck hcs
  cases hp : paO l bs with
  | none =>
   have e1 : deV l ss r bs = 0 := by unfold deV; rw [if_neg (by simpa using h0),hp]
   have e2 : deE l ss r bs = 5 := by unfold deE; rw [if_neg (by simpa using h0),if_pos hp]
   have hend2 : Hid (∀ W,Below w.heap.size w W → DeEnd l ss r bs w (.returned (.tuple #[.int .i64 0,.int .i64 5])) W) := fun W hW => hend.out 0 5 W e1.symm e2.symm hW
   have hpah3 : Hid (∀ va vc W,Below w.heap.size w W → RuAt W (.slice a0 l.length k0) va vc l → Calls Tryz.prog 52 #[.agg (ruA (.slice a0 l.length k0) va vc),.slice a3 bs.length k3] W fun e w' => e = .returned (.tuple #[.slice none 0 0,.bool false]) ∧ Below W.heap.size W w') := fun va vc W hW hR => (hpah.out va vc W hW hR).mono fun e w' ⟨h1,h2⟩ => by
    rcases h1 with ⟨_,h3⟩ | ⟨v3,sts,h3,_⟩
    ·exact ⟨h3,h2⟩
    ·rw [hp] at h3; cases h3
   clear hend e1 e2 h0 hpah hp
   generalize rfE l ss r = c at *
   go_enter Tryz.func23,Tryz.ntmps23
   go_wp2_with fail
   generalize w.alloc (.cells #[.int .i64 r.x,.int .i64 r.w] 29) = wz at *
   go_wp2_with (first | (go_at_call 10; refine (hrf.out _ hlow0.out).mono ?_; rintro e w1 ⟨rfl,hb1⟩; have hlow1 : Hid (Below w.heap.size w w1) := hlow0.out.trans (hb1.mono hlow0.out.size); have hbz1 : Hid (Below wz.heap.size wz w1) := hb1; clear hb1) | (go_at_call 12; refine (hmsh.out _ hlow1.out).mono ?_; rintro e w2 ⟨⟨va,vc,rfl,hru⟩,hb2⟩; have hlow2 : Hid (Below w.heap.size w w2) := hlow1.out.trans (hb2.mono hlow1.out.size); have hbz2 : Hid (Below wz.heap.size wz w2) := hbz1.out.trans (hb2.mono hbz1.out.size); have hruh : Hid (RuAt w2 (.slice a0 l.length k0) va vc l) := hru; clear hb2 hru) | (go_at_call 52; refine (hpah3.out va vc w2 hlow2.out hruh.out).mono ?_; rintro e w3 ⟨rfl,hb3⟩; have hlow3 : Hid (Below w.heap.size w w3) := hlow2.out.trans (hb3.mono hlow2.out.size); clear hb3))
   go_ret2
   exact hend2.out _ hlow3.out
  | some sts =>
   have e1 : deV l ss r bs = deR ss r sts := by unfold deV; rw [if_neg (by simpa using h0),hp]
   have e2 : deE l ss r bs = 0 := by unfold deE; rw [if_neg (by simpa using h0),if_neg (by rw [hp]; exact fun h => by cases h)]
   obtain ⟨hlen,hall⟩ := paO_f hckh.out hp
   have hbl8 : bs.length ≤ 8192 := Nat.le_trans (paO_len hp) (ck_len hckh.out)
   have hend2 : Hid (∀ d W,d = deR ss r sts → Below w.heap.size w W → DeEnd l ss r bs w (.returned (.tuple #[.int .i64 d,.int .i64 0])) W) := fun d W h1 hW => hend.out d 0 W (by rw [e1,h1]) e2.symm hW
   have hpah3 : Hid (∀ va vc W,Below w.heap.size w W → RuAt W (.slice a0 l.length k0) va vc l → Calls Tryz.prog 52 #[.agg (ruA (.slice a0 l.length k0) va vc),.slice a3 bs.length k3] W fun e w' => (∃ g o mc,e = .returned (.tuple #[.slice (some ⟨g,o,none⟩) sts.length mc,.bool true]) ∧ Hid (g < w'.heap.size ∧ ∀ i (hi : i < sts.length),StAt g (o + i * 12) sts[i] w')) ∧ Below W.heap.size W w') := fun va vc W hW hR => (hpah.out va vc W hW hR).mono fun e w' ⟨h1,h2⟩ => by
    rcases h1 with ⟨h3,_⟩ | ⟨v3,sts',h3,h4,h5⟩
    ·rw [hp] at h3; cases h3
    ·rw [hp] at h3
     cases h3
     obtain ⟨a',c',rfl,-⟩ := h5.ex
     obtain ⟨g,o,rfl,h6,h7⟩ := sts_at h5 (by omega)
     exact ⟨⟨g,o,c',h4,h6,h7⟩,h2⟩
   have hdm : Hid (∀ g o k W (hk : k + 1 < sts.length),LnY g (o + k * 12) sts[k] g (o + (k + 1) * 12) sts[k + 1] W → Calls Tryz.prog 53 #[.pointer (some ⟨g,o + k * 12,none⟩),.pointer (some ⟨g,o + (k + 1) * 12,none⟩),.int .i64 (slN ss r k).w] W fun e w' => e = .returned (.tuple #[.int .i64 (dmV sts[k] sts[k + 1] (slN ss r k).w),.bool (dmB sts[k] sts[k + 1] (slN ss r k).w)]) ∧ Below W.heap.size W w') := fun g o k W hk hY => by
    have hp1 := hall _ (List.getElem_mem (show k < sts.length by omega))
    have hp2 := hall _ (List.getElem_mem hk)
    exact demerits_any _ _ _ _ _ _ _ hp1.2 hp2.2 (ln_ok hckh.out hp1.1 hp2.1) (okS_rng (slN_ok hcsh.out k)).2 W hY.p hY.q
   have hdr : Hid (∀ k (hk : k + 1 < sts.length),dmB sts[k] sts[k + 1] (slN ss r k).w = true → 100 ≤ dmV sts[k] sts[k + 1] (slN ss r k).w ∧ dmV sts[k] sts[k + 1] (slN ss r k).w ≤ 171751025) := fun k hk h => by
    have hp1 := hall _ (List.getElem_mem (show k < sts.length by omega))
    have hp2 := hall _ (List.getElem_mem hk)
    exact dmV_rng hp2.2 (ln_ok hckh.out hp1.1 hp2.1) h
   have hlen' : (bs.length : Int) + 1 = sts.length := by omega
   have hb8' : (bs.length : Int) ≤ 8192 := by omega
   have hR0 : Hid (((deG ss r (sts.drop 0) 0).map ((0 : Int) + ·)).getD (-1) = deR ss r sts) := by
    show _ = _
    unfold deR
    rw [List.drop_zero]
    cases deG ss r sts 0 with
    | none => rfl
    | some x => simp
   clear hend e1 e2 h0 hall hckh hcsh hpah
   generalize deR ss r sts = RR at *
   generalize rfE l ss r = c at *
   go_enter Tryz.func23,Tryz.ntmps23
   go_wp2_with fail
   generalize w.alloc (.cells #[.int .i64 r.x,.int .i64 r.w] 29) = wz at *
   go_wp2_with (first | (go_at_call 10; refine (hrf.out _ hlow0.out).mono ?_; rintro e w1 ⟨rfl,hb1⟩; have hlow1 : Hid (Below w.heap.size w w1) := hlow0.out.trans (hb1.mono hlow0.out.size); have hbz1 : Hid (Below wz.heap.size wz w1) := hb1; clear hb1) | (go_at_call 12; refine (hmsh.out _ hlow1.out).mono ?_; rintro e w2 ⟨⟨va,vc,rfl,hru⟩,hb2⟩; have hlow2 : Hid (Below w.heap.size w w2) := hlow1.out.trans (hb2.mono hlow1.out.size); have hbz2 : Hid (Below wz.heap.size wz w2) := hbz1.out.trans (hb2.mono hbz1.out.size); have hruh : Hid (RuAt w2 (.slice a0 l.length k0) va vc l) := hru; clear hb2 hru) | (go_at_call 52; refine (hpah3.out va vc w2 hlow2.out hruh.out).mono ?_; rintro e w3 ⟨⟨g,o,mc,rfl,hst3⟩,hb3⟩; have hlow3 : Hid (Below w.heap.size w w3) := hlow2.out.trans (hb3.mono hlow2.out.size); have hbz3 : Hid (Below wz.heap.size wz w3) := hbz2.out.trans (hb3.mono hbz2.out.size); clear hb3 hruh hpah3 hmsh hrf))
   clear hlow2 hlow1 hbz1 hbz2
   go_loopw [13,35] (fun v13 v35 wr => ∃ (k : Nat) (s : Int),k ≤ bs.length ∧ v35 = .int .i64 k ∧ v13 = .int .i64 s ∧ (0 ≤ s ∧ s ≤ 171751025 * k) ∧ Hid (Below w3.heap.size w3 wr) ∧ Hid (((deG ss r (sts.drop k) k).map (s + ·)).getD (-1) = RR)) (fun _ v35 _ => bs.length - (intOf v35).toNat)
   case atStart => exact ⟨0,0,by omega,rfl,rfl,by omega,Below.refl _ _,hR0⟩
   case round =>
    obtain ⟨k,s,hk,rfl,rfl,⟨hs1,hs2⟩,hbr,hrr⟩ := hrel
    clear hR0
    have hlowr : Hid (Below w.heap.size w wr) := hlow3.out.trans (hbr.out.mono hlow3.out.size)
    by_cases hlt : k < bs.length
    ·have hlt' : (k : Int) < bs.length := by omega
     have hk1 : k + 1 < sts.length := by omega
     have hDS : Hid (∀ W,Below w3.heap.size w3 W → DeS w.heap.size r g o k sts[k] sts[k + 1] (.slice a2 ss.length k2) ss W) := fun W hW => by
      have h1 := hbz3.out.trans (hW.mono hbz3.out.size)
      have h2 := hlow3.out.trans (hW.mono hlow3.out.size)
      exact ⟨(hboxh.out W h1).1,(hst3.out.2 k (by omega)).below hW hst3.out.1,(hst3.out.2 (k + 1) hk1).below hW hst3.out.1,hVh.out.below h2 (Nat.le_refl _)⟩
     have hc1 : Hid (∀ W,DeS w.heap.size r g o k sts[k] sts[k + 1] (.slice a2 ss.length k2) ss W → Calls Tryz.prog 33 #[.slice a2 ss.length k2,.agg (slL r).toArray,.int .i64 (k : Nat)] W fun e w' => e = .returned (.agg (slL (slN ss r k)).toArray) ∧ Below W.heap.size W w') := fun W h => sls_slot hl h.s
     have hc2 : Hid (∀ W,DeS w.heap.size r g o k sts[k] sts[k + 1] (.slice a2 ss.length k2) ss W → Calls Tryz.prog 53 #[.pointer (some ⟨g,o + k * 12,none⟩),.pointer (some ⟨g,o + (k + 1) * 12,none⟩),.int .i64 (slN ss r k).w] W fun e w' => e = .returned (.tuple #[.int .i64 (dmV sts[k] sts[k + 1] (slN ss r k).w),.bool (dmB sts[k] sts[k + 1] (slN ss r k).w)]) ∧ Below W.heap.size W w') := fun W h => hdm.out g o k W hk1 ⟨h.p,h.q⟩
     have hS0 : Hid (DeS w.heap.size r g o k sts[k] sts[k + 1] (.slice a2 ss.length k2) ss (World.drew wr)) := hDS.out _ (hbr.out.drew)
     have hstep := fun hd => de_step (ss := ss) (r := r) (sts := sts) (k := k) (s := s) hk1 hd
     have hnone : Hid (dmB sts[k] sts[k + 1] (slN ss r k).w = false → -1 = RR) := fun hd => by
      have := hrr.out
      rw [deG_go hk1,if_neg (by rw [hd]; decide)] at this
      exact this
     have hsth : Hid (dmB sts[k] sts[k + 1] (slN ss r k).w = true → ((deG ss r (sts.drop (k + 1)) (k + 1)).map ((s + dmV sts[k] sts[k + 1] (slN ss r k).w) + ·)).getD (-1) = RR) := fun hd => by rw [← hstep hd]; exact hrr.out
     have hdr1 : Hid (dmB sts[k] sts[k + 1] (slN ss r k).w = true → 100 ≤ dmV sts[k] sts[k + 1] (slN ss r k).w ∧ dmV sts[k] sts[k + 1] (slN ss r k).w ≤ 171751025) := hdr.out k hk1
     clear hDS hstep hrr hdm hdr hst3 hboxh hVh
     generalize sts[k] = p at *
     generalize sts[k + 1] = q at *
     go_wp2_with fail
     refine de_r11 _ (fun _ _ _ _ _ h => h) _ _ w.heap.size r g o k (bs.length + 1) mc p q a2 ss.length k2 ss wr hS0.out hc1 hc2 (by omega) (by omega) (by omega) ?_
     intro w5 hb5
     have hb5h : Hid (Below wr.heap.size wr w5) := hb5
     clear hb5 hS0 hc1 hc2
     cases hd : dmB p q (slN ss r k).w with
     | false =>
      have e := hnone.out hd
      clear hnone hsth hdr1 hd
      unfold fr23
      go_wp2_with fail
      go_ret2
      exact hend2.out _ _ e (hlowr.out.trans (hb5h.out.mono hlowr.out.size))
     | true =>
      have e := hsth.out hd
      have hdv := hdr1.out hd
      obtain ⟨d1,d2⟩ := hdv
      have eh : Hid (_ = RR) := e
      clear hnone hsth hdr1 hd e
      generalize dmV p q (slN ss r k).w = dv at *
      unfold fr23
      go_wp2_with fail
      exact ⟨⟨k + 1,s + dv,by omega,by simp,rfl,by omega,hbr.out.trans (hb5h.out.mono hbr.out.size),eh⟩,by simp [intOf]; omega⟩
    ·have hge : ¬ (k : Int) < bs.length := by omega
     have e : Hid (s = RR) := by
      have := hrr.out
      rw [deG_end (by omega)] at this
      show _ = _
      simpa using this
     clear hrr
     go_wp2_with fail
     go_ret2
     exact hend2.out _ _ e.out hlowr.out
 ·have q1 : (rfE l ss r != 0) = true := by simpa using h0
  have e1 : deV l ss r bs = 0 := by unfold deV; rw [if_pos h0]
  have e2 : deE l ss r bs = rfE l ss r := by unfold deE; rw [if_pos h0]
  have hend2 : Hid (∀ W,Below w.heap.size w W → DeEnd l ss r bs w (.returned (.tuple #[.int .i64 0,.int .i64 (rfE l ss r)])) W) := fun W hW => hend.out 0 _ W e1.symm e2.symm hW
  clear hend e1 e2 h0 hms hpa
  generalize rfE l ss r = c at *
  go_enter Tryz.func23,Tryz.ntmps23
  go_wp2_with fail
  generalize w.alloc (.cells #[.int .i64 r.x,.int .i64 r.w] 29) = wz at *
  go_wp2_with (go_at_call 10; refine (hrf.out _ hlow0.out).mono ?_; rintro e w1 ⟨rfl,hb1⟩)
  go_ret2
  exact hend2.out _ (hlow0.out.trans (hb1.mono hlow0.out.size))
end Go.Proofs.YtfndocmgonlhpaaGreatDoor

namespace Go.Proofs.YtfndocmgonlhpaaGreatDoor
open Go.RowKit Go.Shelf
set_option maxRecDepth 100000
set_option maxHeartbeats 4000000

def inL (x : Int) : List Value := [.int .i64 x]
theorem inL_len (x : Int) : (inL x).length = 1 := rfl
theorem inL_one (x : Int) : ∀ u ∈ inL x,u.oneCell' = true := by intro u hu; simp [inL] at hu; subst hu; rfl
theorem el41 : ElOk 41 3 1 8 := ElOk.of Tryz.underlying41 (by kernel_rfl)
def kN (f : Nat → Int) (x : Int) : Nat → Nat
 | 0 => 0
 | 1 => 1
 | m + 2 => if f m = x then kN f x (m + 1) else m + 2
def wdF (ss : List Sl) (r : Sl) (n : Nat) : Int := (slN ss r n).w
def wdL (ss : List Sl) (r : Sl) (m : Nat) : List Int := (List.range m).map (wdF ss r)
def wdsL (ss : List Sl) (r : Sl) : List Int := wdL ss r (kN (wdF ss r) r.w (ss.length + 1))
theorem wdL_len (ss : List Sl) (r : Sl) (m : Nat) : (wdL ss r m).length = m := by simp [wdL]
theorem wdL_at {ss : List Sl} {r : Sl} {m i : Nat} (hi : i < m) : (wdL ss r m)[i]'(by rw [wdL_len]; exact hi) = wdF ss r i := by simp [wdL]
theorem wdL_succ (ss : List Sl) (r : Sl) (m : Nat) : wdL ss r m ++ [wdF ss r m] = wdL ss r (m + 1) := by simp [wdL,List.range_succ]
theorem wdL_take {ss : List Sl} {r : Sl} {m k : Nat} (h : k ≤ m) : (wdL ss r m).take k = wdL ss r k := by
 unfold wdL
 rw [← List.map_take,List.take_range,Nat.min_eq_left h]
theorem kN_le (f : Nat → Int) (x : Int) : ∀ m,kN f x m ≤ m ∧ (0 < m → 0 < kN f x m)
 | 0 => ⟨Nat.le_refl _,fun h => h⟩
 | 1 => ⟨Nat.le_refl _,fun h => h⟩
 | m + 2 => by
  unfold kN
  have := kN_le f x (m + 1)
  split
  ·exact ⟨by omega,fun _ => this.2 (by omega)⟩
  ·exact ⟨Nat.le_refl _,fun h => h⟩
def WdEnd (ss : List Sl) (r : Sl) (w : World) (e : Ending) (w' : World) : Prop := (∃ v,e = .returned v ∧ IntsAt w' v (wdsL ss r)) ∧ Below w.heap.size w w'
structure WdI (z : World) (r : Sl) (v : Value) (qs : List Int) (W : World) : Prop where
 low : Below z.heap.size z W
 box : W.heap[z.heap.size]? = some (.cells #[.int .i64 r.x,.int .i64 r.w] 29 (0,0))
 row : W.ownsRow (z.heap.size + 1) 3 1 v qs.length (qs.flatMap inL)
theorem WdI.next {z : World} {r : Sl} {v : Value} {qs : List Int} {W W' : World} (h : WdI z r v qs W) (hb : Below W.heap.size W W') : WdI z r v qs W' :=
 ⟨h.low.trans (hb.mono h.low.size),(hb.block _ (Array.getElem?_eq_some_iff.1 h.box).1).trans h.box,ownsRow_below h.row hb⟩
theorem WdI.lt {z : World} {r : Sl} {v : Value} {qs : List Int} {W : World} (h : WdI z r v qs W) : z.heap.size + 1 ≤ W.heap.size := (Array.getElem?_eq_some_iff.1 h.box).1
theorem WdI.app {z : World} {r : Sl} {v v' : Value} {qs qs' : List Int} {W W' : World} (h : WdI z r v qs W) (hr : W'.ownsRow (z.heap.size + 1) 3 1 v' qs'.length (qs'.flatMap inL)) (hb : Below (z.heap.size + 1) W W') : WdI z r v' qs' W' :=
 ⟨h.low.trans (hb.mono (by omega)),(hb.block _ (by omega)).trans h.box,hr⟩
theorem widths_any (vs : Value) (ss : List Sl) (r : Sl) (h : ckS ss r = 0) (w : World) (hV : SlsAt w vs ss) : Calls Tryz.prog 14 #[vs,.agg (slL r).toArray] w (WdEnd ss r w) := by
 have h2 := ckS_few h
 have hb0 := (Below.refl w.heap.size w).alloc (Nat.le_refl _) (.cells #[.int .i64 r.x,.int .i64 r.w] 29)
 have hbox : (w.alloc (.cells #[.int .i64 r.x,.int .i64 r.w] 29)).heap[w.heap.size]? = some (.cells #[.int .i64 r.x,.int .i64 r.w] 29 (0,0)) := World.alloc_heap_new w _
 have hI0 : Hid (WdI w r (.slice none 0 0) [] (w.alloc (.cells #[.int .i64 r.x,.int .i64 r.w] 29))) := ⟨hb0,hbox,World.ownsRow_nil _ _ _ _⟩
 have hsl : Hid (∀ k W,Below w.heap.size w W → Calls Tryz.prog 33 #[vs,.agg #[.int .i64 r.x,.int .i64 r.w],.int .i64 (k : Nat)] W fun e w' => e = .returned (.agg #[.int .i64 (slN ss r k).x,.int .i64 (wdF ss r k)]) ∧ Below W.heap.size W w') := fun k W hW => sls_slot (by omega) (hV.below hW (Nat.le_refl _))
 obtain ⟨a2,k2,rfl,-⟩ := hV.ex
 have hl2 : (ss.length : Int) ≤ 256 := by omega
 have hend : Hid (∀ v W,IntsAt W v (wdsL ss r) → Below w.heap.size w W → WdEnd ss r w (.returned v) W) := fun v W h1 h2 => ⟨⟨v,rfl,h1⟩,h2⟩
 clear hV hb0 hbox h
 show Calls Tryz.prog 14 #[.slice a2 ss.length k2,.agg #[.int .i64 r.x,.int .i64 r.w]] w _
 go_enter Tryz.func14,Tryz.ntmps14
 go_wp2_with fail
 generalize w.alloc (.cells #[.int .i64 r.x,.int .i64 r.w] 29) = wz at *
 go_wp2_with fail
 go_loopw [5,10] (fun v5 v10 wr => ∃ (k : Nat) (va : Option Addr) (vc : Nat),k ≤ ss.length + 1 ∧ v10 = .int .i64 k ∧ v5 = .slice va k vc ∧ Hid (WdI w r (.slice va k vc) (wdL ss r k) wr)) (fun _ v10 _ => ss.length + 1 - (intOf v10).toNat)
 case atStart => exact ⟨0,none,0,by omega,rfl,rfl,hI0⟩
 case round =>
  obtain ⟨k,va,vc,hk,rfl,rfl,hI⟩ := hrel
  clear hI0
  have m0 : wr.cell? ⟨w.heap.size,0,none⟩ = some (.int .i64 r.x) := by rw [Lib.cell_of_heap hI.out.box]; rfl
  have m1 : wr.cell? ⟨w.heap.size,1,none⟩ = some (.int .i64 r.w) := by rw [Lib.cell_of_heap hI.out.box]; rfl
  by_cases hlt : k < ss.length + 1
  ·have hlt' : (k : Int) < (ss.length : Int) + 1 := by omega
   have hsl1 : Hid (Calls Tryz.prog 33 #[.slice a2 ss.length k2,.agg #[.int .i64 r.x,.int .i64 r.w],.int .i64 (k : Nat)] wr fun e w' => e = .returned (.agg #[.int .i64 (slN ss r k).x,.int .i64 (wdF ss r k)]) ∧ Below wr.heap.size wr w') := hsl.out k wr hI.out.low
   have hI1 : Hid (WdI w r (.slice va (wdL ss r k).length vc) (wdL ss r k) wr) := by rw [wdL_len]; exact hI.out
   have hnx : Hid (∀ W v,WdI w r v (wdL ss r k ++ [wdF ss r k]) W → WdI w r v (wdL ss r (k + 1)) W) := fun W v h => by rw [wdL_succ] at h; exact h
   have hvl : Hid (a2 = a2 → (wdL ss r k).length = k) := fun _ => wdL_len _ _ _
   clear hI hsl hend
   generalize (slN ss r k).x = sx at *
   generalize wdF ss r k = sw at *
   have hfd : ∀ W : World,(Instr.field 29 (.agg #[.int .i64 sx,.int .i64 sw]) 1).run Tryz.prog W = .ok (.int .i64 sw) W := fun W => by kernel_rfl
   go_wp2_with (first | (go_at_call 33; refine hsl1.out.mono ?_; rintro e w4 ⟨rfl,hb4⟩; have hI4 : Hid (WdI w r (.slice va (wdL ss r k).length vc) (wdL ss r k) w4) := hI1.out.next hb4; clear hb4 hI1 hsl1 m0 m1) | (refine wpList_app1 (k := 1) (f := inL) (w0 := w4) (bytes := 8) rfl el41 inL_len inL_one (by omega) (by omega) _ _ rfl (w.heap.size + 1) (.slice va (wdL ss r k).length vc) (wdL ss r k) sw (by rw [wdL_len]; rfl) hI4.out.row hI4.out.lt (by rw [wdL_len]; omega) rfl rfl ?_; intro v' w6 hr6 hb6; obtain ⟨g6,cap6,rfl,-,-,-⟩ := row_rb inL_len hr6 (by simp); have hI6 : Hid (WdI w r (.slice (some ⟨g6,0,none⟩) (wdL ss r k ++ [sw]).length cap6) (wdL ss r k ++ [sw]) w6) := hI4.out.app hr6 hb6; clear hr6 hb6 hI4))
   exact ⟨⟨k + 1,some ⟨g6,0,none⟩,cap6,by omega,by simp,by rw [wdL_len],hnx.out _ _ (by have := hI6.out; rw [show (wdL ss r k ++ [sw]).length = k + 1 by simp [wdL_len]] at this; exact this)⟩,by simp [intOf]; omega⟩
  ·have hge : ¬ (k : Int) < (ss.length : Int) + 1 := by omega
   have hkn : Hid (k = ss.length + 1) := by show _ = _; omega
   have hrow := hI.out.row
   obtain ⟨g,cap,hv,hg,hcap,hrb⟩ := row_rb inL_len hrow (by rw [wdL_len]; omega)
   obtain rfl : va = some ⟨g,0,none⟩ := by injection hv
   obtain rfl : vc = cap := by injection hv
   rw [wdL_len] at hcap
   have hrbh : Hid (RB 1 inL wr g (wdL ss r k)) := hrb
   have hlow : Hid (Below w.heap.size w wr) := hI.out.low
   have hbx : Hid (wr.heap[w.heap.size]? = some (.cells #[.int .i64 r.x,.int .i64 r.w] 29 (0,0))) := hI.out.box
   have hwl : Hid (w.heap.size < wr.heap.size) := by have := hI.out.lt; show _ < _; omega
   have hK0 : Hid (kN (wdF ss r) r.w k = kN (wdF ss r) r.w (ss.length + 1)) := by show _ = _; rw [hkn.out]
   have hfin : Hid (∀ m W,m ≤ k → m = kN (wdF ss r) r.w (ss.length + 1) → Below wr.heap.size wr W → WdEnd ss r w (.returned (.slice (some ⟨g,0,none⟩) m vc)) W) := fun m W hm e hW => by
    refine hend.out _ W ?_ (hlow.out.trans (hW.mono hlow.out.size))
    have h1 := (hrbh.out.below hW hrbh.out.lt).recs (n := m) (cap := vc) (by rw [wdL_len]; exact hm) (by omega)
    rw [wdL_take hm,e] at h1
    rw [e]
    exact h1
   clear hrb hrow hv hI hend hsl hg m0 m1
   obtain ⟨w3,rfl⟩ : ∃ w3,w3 = wr := ⟨_,rfl⟩
   go_wp2_with fail
   go_loopw [5] (fun v5 wq => ∃ m : Nat,(1 ≤ m ∧ m ≤ k) ∧ v5 = .slice (some ⟨g,0,none⟩) m vc ∧ Hid (Below w3.heap.size w3 wq) ∧ Hid (kN (wdF ss r) r.w m = kN (wdF ss r) r.w (ss.length + 1))) (fun v5 _ => match v5 with | .slice _ n _ => n | _ => 0)
   case atStart => exact ⟨k,by omega,rfl,Below.refl _ _,hK0⟩
   case round =>
    obtain ⟨m,⟨hm1,hmk⟩,rfl,hbq,hK⟩ := hrel
    clear hK0
    have hm8 : (m : Int) ≤ 257 := by have := hkn.out; omega
    have b1 : wr.cell? ⟨w.heap.size,1,none⟩ = some (.int .i64 r.w) := (hbq.out.cell hwl.out).trans (by rw [Lib.cell_of_heap hbx.out]; rfl)
    by_cases h2m : 2 ≤ m
    ·have h2' : (2 : Int) ≤ m := by omega
     have hcell : wr.cell? ⟨g,m - 2,none⟩ = some (.int .i64 (wdF ss r (m - 2))) := by
      have h3 := (hrbh.out.below hbq.out hrbh.out.lt).all (m - 2) (by rw [wdL_len]; omega) 0 (.int .i64 (wdF ss r (m - 2))) (by rw [wdL_at (by omega)]; rfl)
      rw [Nat.mul_one,Nat.add_zero] at h3
      exact h3.1
     have hkk : Hid (kN (wdF ss r) r.w m = if wdF ss r (m - 2) = r.w then kN (wdF ss r) r.w (m - 1) else m) := by
      obtain ⟨q,rfl⟩ : ∃ q,m = q + 2 := ⟨m - 2,by omega⟩
      rfl
     by_cases he : wdF ss r (m - 2) = r.w
     ·have hK2 : Hid (kN (wdF ss r) r.w (m - 1) = kN (wdF ss r) r.w (ss.length + 1)) := by
       have := hkk.out
       rw [if_pos he] at this
       show _ = _
       rw [← this]; exact hK.out
      rw [he] at hcell
      clear hkk he hK hfin hrbh hbx
      go_wp2_with fail
      have g1 : decide ((1 : Int) < (m : Int)) = true := decide_eq_true (by omega)
      have g2 : decide (1 < m) = true := decide_eq_true (by omega)
      go_quiet (fail)
      clear g1 g2
      go_wp2_with fail
      exact ⟨⟨m - 1,by omega,rfl,below_drewN hbq.out _,hK2⟩,by show m - 1 < m; omega⟩
     ·have hfin2 : Hid (∀ W,Below w3.heap.size w3 W → WdEnd ss r w (.returned (.slice (some ⟨g,0,none⟩) m vc)) W) := fun W hW => hfin.out m W hmk (by have := hkk.out; rw [if_neg he] at this; rw [← this]; exact hK.out) hW
      have hne : (wdF ss r (m - 2) == r.w) = false := by simpa using he
      clear hkk he hK hfin hrbh hbx
      go_wp2_with fail
      have g1 : decide ((1 : Int) < (m : Int)) = true := decide_eq_true (by omega)
      have g2 : decide (1 < m) = true := decide_eq_true (by omega)
      go_quiet (fail)
      clear g1 g2
      go_wp2_with fail
      go_ret
      exact hfin2.out _ (below_drewN hbq.out _)
    ·have hm1' : m = 1 := by omega
     have hfin2 : Hid (∀ W,Below w3.heap.size w3 W → WdEnd ss r w (.returned (.slice (some ⟨g,0,none⟩) m vc)) W) := fun W hW => hfin.out m W hmk (by have := hK.out; rw [hm1'] at this ⊢; exact this) hW
     have hlt1 : ¬ (1 : Int) < (m : Int) := by omega
     clear hK hfin hrbh hbx hm1'
     go_wp2_with fail
     have g1 : decide ((1 : Int) < (m : Int)) = false := decide_eq_false (by omega)
     have g2 : decide (1 < m) = false := decide_eq_false (by omega)
     go_quiet (fail)
     clear g1 g2
     go_wp2_with fail
     go_ret
     exact hfin2.out _ (below_drewN hbq.out _)
end Go.Proofs.YtfndocmgonlhpaaGreatDoor
